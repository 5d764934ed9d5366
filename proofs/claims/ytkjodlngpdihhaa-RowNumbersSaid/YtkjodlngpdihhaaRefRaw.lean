/-
  The document's own Reader: raw, number and what reads by them.
-/
import Derived.Test.YtkjodlngpdihhaaRefR
import Derived.Test.YtkjodlngpdihhaaRegion
namespace Go.Proofs.Ytkjodlngpdihhaa
open Go.RowKit
set_option linter.unusedVariables false

/-- v is an empty slice at the head of an empty row. -/
def EmptyRow (v : Value) (w : World) : Prop := ∃ g, v = .slice (some ⟨g, 0, none⟩) 0 0 ∧ w.heap[g]? = some (.cells #[] 5 (0, 0))
theorem EmptyRow.mono : Mono EmptyRow := by
  rintro v w w' hE ⟨g, rfl, hg⟩
  exact ⟨g, rfl, by rw [hE.block g (Array.getElem?_eq_some_iff.1 hg).1]; exact hg⟩
theorem EmptyRow.new (w : World) : EmptyRow (.slice (some ⟨w.heap.size, 0, none⟩) 0 0) (w.alloc (.cells #[] 5)) := ⟨_, rfl, heap_alloc_new w _⟩
theorem run_build_empty {ρ : Operand → Value} {o : Oper} (ho : o.op = .buildSlice 33 0 #[]) (w : World) : (execOp ρ o).run Try.prog w = .ok (.value (.slice (some ⟨w.heap.size, 0, none⟩) 0 0)) (w.alloc (.cells #[] 5)) := by
  unfold execOp
  rw [ho]
  simp [go_sem]
theorem run_append_empty {P : Program} (ty : TypeId) (ht : P.underlying 33 = some (.slice 5)) (hi : (P.info? 5).map (fun i => (i.zero, i.size, i.bytes)) = some (some (.int .u8 0), 1, 1))
    (v : Value) (w : World) (hv : EmptyRow v w) (A : Option Addr) (m c : Nat) (l : List UInt8) (hB : Bs w A m c l) (hb : l.length ≤ 140737488355328) :
    ∃ v' w', (Builtin.append_ #[33, 33] ty #[v, .slice A m c]).run P w = .ok v' w' ∧ Holds l v' w' ∧ Ev w w' := by
  obtain ⟨g, rfl, hg⟩ := hv
  have hown : Row w (.slice (some ⟨g, 0, none⟩) 0 0) [] := ⟨by simp [bvs], .inr ⟨g, 0, #[], rfl, Nat.zero_le _, hg, Nat.le_refl _, by unfold maxLen; omega, rfl, rfl⟩⟩
  obtain ⟨v', w', hr, h1, h2, h3⟩ := run_append_row (P := P) (w := w) ty ht hi _ [] hown A m c l hB (by simpa using hb)
  refine ⟨v', w', hr, ?_, ?_⟩
  · obtain ⟨A', cap', rfl, hB', _⟩ := h1.bs
    rw [List.nil_append] at hB'
    exact ⟨A', _, cap', rfl, hB'⟩
  · refine ⟨h2.os, h2.tape, h2.output, h2.size, fun k hk => ?_⟩
    by_cases hkg : k = g
    · subst hkg
      obtain ⟨i, hi0, hz, hsz, hby⟩ := info_parts hi
      have hl := hB.len
      cases A with
      | none =>
        obtain ⟨rfl, rfl⟩ := hB.nil rfl
        have hr2 := run_append_owned_none (P := P) (w := w) 0 33 ty 5 i 1 ht hi0 _ _ _ hown
        rw [hr] at hr2
        simp only [Result.ok.injEq] at hr2
        rw [hr2.2]
      | some ad =>
        by_cases hm : m = 0
        · subst hm
          have hn : l = [] := List.eq_nil_of_length_eq_zero hl
          subst hn
          have hr2 := run_append_room (P := P) w 33 ty 5 i ht hi0 k 0 0 #[] hg ad 0 c [] (by simp) (by simp) (by simp) (by omega) (by simp)
          rw [hr] at hr2
          simp only [Result.ok.injEq] at hr2
          rw [hr2.2, setRow_heap w k #[] _ 5 (0, 0) hg, hg]
          simp
        · have hr2 := run_append_grow (P := P) w 33 ty 5 i (.int .u8 0) ht hi0 hz ⟨k, 0, none⟩ 0 0 [] (by simp) (by simp) ad m c (bvs l) (by rw [bvs_length, hl, hsz]; omega) (hB.cells ad rfl) (by omega) (by omega) (by rw [hby]; exact growslice_fits (by omega) (by omega))
          rw [hr] at hr2
          simp only [Result.ok.injEq] at hr2
          rw [hr2.2]
          exact ((Ev.drew w).trans (Ev.alloc w.drew _)).block k hk
    · exact h2.block k hk (fun hm => hkg (by have := mem_foot.1 hm; simp [Value.ownBlock] at this; exact this.symm))

/-- A slice of bytes does not lie in the Reader's own block. -/
theorem Bs.beside {p : Nat} {A B : Option Addr} {n cap m c at_ y z : Nat} {r : Bool} {l : List UInt8} {w w' : World} (h : Bs w B m c l) (hp : Rc p A n cap at_ r y z w) (hb : But [p] w w') : Bs w' B m c l :=
  ⟨h.len, h.le, h.max, h.nil, fun hn => by
    obtain ⟨b, off, e, hlt, hc⟩ := h.rd hn
    have hne : b ≠ p := by
      rintro rfl
      have h0 := hc 0 hn
      rw [Lib.cell_of_heap hp] at h0
      have : off + 0 = 0 ∨ off + 0 = 1 ∨ off + 0 = 2 ∨ off + 0 = 3 ∨ off + 0 = 4 ∨ 5 ≤ off + 0 := by omega
      rcases this with h1 | h1 | h1 | h1 | h1 | h1
      all_goals first
        | (rw [h1] at h0; simp at h0; done)
        | (rw [Array.getElem?_eq_none (by simpa using h1)] at h0; cases h0)
    refine ⟨b, off, e, Nat.lt_of_lt_of_le hlt hb.size, fun i hi => ?_⟩
    rw [World.cell?_of_block (w := w) (hb.block b hlt (by simpa using hne))]
    exact hc i hi⟩

variable {p : Nat} {A : Option Addr} {n cap : Nat} {L : List UInt8} {why pos : Nat} {w w' : World}
set_option maxRecDepth 100000 in
set_option maxHeartbeats 4000000 in
theorem ref_raw (k : Nat) (w : World) (h : Rqs p A n cap L why pos w) (hk : k ≤ 140737488355328) :
    Calls Try.prog 77 #[.pointer (some ⟨p, 0, none⟩), .int .i64 (k : Int)] w fun e w' => ∃ A' n' cap', e = .returned (.slice A' n' cap') ∧ Bs w' A' n' cap' (rdTake L why pos k).1 ∧
      Rqs p A n cap L (rdTake L why pos k).2.1 (rdTake L why pos k).2.2 w' ∧ But [p] w w' := by
  have HC := Lib.hid (fun w (h : Rqs p A n cap L why pos w) => ref_refuse 10 n w h (by decide))
  have hq := h
  obtain ⟨at_, r, y, z, hR0⟩ := h
  have h0 := hR0.c0; have h1 := hR0.c1; have h2 := hR0.c2
  have hl := hR0.bs.len; have hi := hR0.inside; have hs := hR0.small; have hcap := hR0.bs.le; have hmax := hR0.bs.max
  by_cases hw : why = 0
  · obtain ⟨rfl, rfl⟩ := hR0.says.no hw
    by_cases hp : at_ + k ≤ n
    · have e : rdTake L why at_ k = ((L.drop at_).take k, why, at_ + k) := by unfold rdTake rdLeft; rw [if_pos (by rw [if_pos hw]; omega)]
      rw [e]
      have hBs0 := hR0.bs.cut hp
      rw [show at_ + k - at_ = k by omega] at hBs0
      obtain ⟨A1, hA1⟩ : ∃ A1, (if cap = at_ then A else Option.map (fun x => x.add at_) A) = A1 := ⟨_, rfl⟩
      rw [hA1] at hBs0
      have hln : ((L.drop at_).take k).length ≤ 140737488355328 := by simp; omega
      have hkk : at_ + k - at_ = k := by omega
      have b0 : (at_ : Int) ≤ at_ + k := by omega
      have b1 : (at_ : Int) + k ≤ cap := by omega
      have b2 : ((at_ : Int) + k).toNat = at_ + k := by omega
      have hw64 : IntKind.i64.wrap ((at_ : Int) + k) = at_ + k := IntWalk.i64_in _ (by omega)
      have hng : ¬ ((n : Int) - at_ < k) := by omega
      have hmix : Try.prog.follows .mixedOrders = true := by kernel_rfl
      have HL := Lib.hid hl; have HA1 := Lib.hid hA1; have HLN := Lib.hid hln; have HKK := Lib.hid hkk; have HB0 := Lib.hid b0; have HB1 := Lib.hid b1; have HB2 := Lib.hid b2; have HW64 := Lib.hid hw64; have HBS := Lib.hid hBs0; have HH := Lib.hid hR0
      clear e hl hA1 hln hkk b0 b1 b2 hw64 hBs0 hR0 hq
      go_enter Try.func77, Try.ntmps77
      go_wp2
      go_quiet (fail)
      go_wp2
      have hR2 := HH.out.ev (Ev.drewN w nq)
      have hBs := HBS.out.below (Ev.drewN w nq)
      have hE0 := Ev.drewN w nq
      clear h0 h1 h2
      generalize w.drewN nq = w2 at *
      have h0 := hR2.c0
      have h1 := hR2.c1
      have hlt := hR2.lt
      have hA1 := HA1.out; have hln := HLN.out; have hkk := HKK.out; have b0 := HB0.out; have b1 := HB1.out; have b2 := HB2.out; have hw64 := HW64.out
      refine wp_region_slots hmix [EmptyRow, fun v _ => v = .pointer (some ⟨p, 0, none⟩), fun v _ => v = .pointer (some ⟨p, 0, none⟩), fun v _ => v = .pointer (some ⟨p, 0, none⟩), fun v _ => v = .slice A n cap, fun v _ => v = .pointer (some ⟨p, 0, none⟩), fun v _ => v = .pointer (some ⟨p, 0, none⟩), fun v _ => v = .pointer (some ⟨p, 1, none⟩), fun v _ => v = .int .i64 (at_ : Int), fun v _ => v = .pointer (some ⟨p, 0, none⟩), fun v _ => v = .pointer (some ⟨p, 0, none⟩), fun v _ => v = .pointer (some ⟨p, 1, none⟩), fun v _ => v = .int .i64 (at_ : Int), fun v _ => v = .int .i64 (k : Int), fun v _ => v = .int .i64 ((at_ : Int) + k), fun v _ => v = .slice A1 k (cap - at_), Holds ((L.drop at_).take k), Holds ((L.drop at_).take k)]
        56 rfl (by kernel_rfl) ⟨EmptyRow.mono, mono_eq _, mono_eq _, mono_eq _, mono_eq _, mono_eq _, mono_eq _, mono_eq _, mono_eq _, mono_eq _, mono_eq _, mono_eq _, mono_eq _, mono_eq _, mono_eq _, mono_eq _, Holds.mono _, Holds.mono _, trivial⟩ ?_ ?_
      · refine ops_cons 0 ?_ (ops_cons 1 ?_ (ops_cons 2 ?_ (ops_cons 3 ?_ (ops_cons 4 ?_ (ops_cons 5 ?_ (ops_cons 6 ?_ (ops_cons 7 ?_ (ops_cons 8 ?_ (ops_cons 9 ?_ (ops_cons 10 ?_ (ops_cons 11 ?_ (ops_cons 12 ?_ (ops_cons 13 ?_ (ops_cons 14 ?_ (ops_cons 15 ?_ (ops_cons 16 ?_ (ops_cons 17 ?_ (ops_nil 18))))))))))))))))))
        · refine op_makes fun a w c => ⟨(wanted_plain rfl), _, _, run_build_empty rfl w, Ev.alloc _ _, EmptyRow.new w⟩
        · refine op_value fun a w c => ⟨(wanted_plain rfl), _, run_move _ rfl w, (c.was 0 (by kernel_rfl) rfl)⟩
        · refine op_value fun a w c => ⟨(wanted_plain rfl), .pointer (some ⟨p, 0, none⟩), ?_, rfl⟩
          have e30 : a.eval (.tmp 30) = .pointer (some ⟨p, 0, none⟩) := (c.new 1 30 (by kernel_rfl) (by kernel_rfl))
          generalize a.eval = ρ at e30 ⊢
          simp [execOp, e30, go_sem]
        · refine op_value fun a w c => ⟨(wanted_plain rfl), .pointer (some ⟨p, 0, none⟩), ?_, rfl⟩
          have e31 : a.eval (.tmp 31) = .pointer (some ⟨p, 0, none⟩) := (c.new 2 31 (by kernel_rfl) (by kernel_rfl))
          generalize a.eval = ρ at e31 ⊢
          simp [execOp, e31, go_sem]
        · refine op_value fun a w c => ⟨(wanted_plain rfl), .slice A n cap, ?_, rfl⟩
          have e32 : a.eval (.tmp 32) = .pointer (some ⟨p, 0, none⟩) := (c.new 3 32 (by kernel_rfl) (by kernel_rfl))
          have hc := (c.ev.cell (p := ⟨p, 0, none⟩) hlt).trans h0
          generalize a.eval = ρ at e32 ⊢
          simp [execOp, e32, hc, go_sem]
        · refine op_value fun a w c => ⟨(wanted_plain rfl), _, run_move _ rfl w, (c.was 0 (by kernel_rfl) rfl)⟩
        · refine op_value fun a w c => ⟨(wanted_plain rfl), .pointer (some ⟨p, 0, none⟩), ?_, rfl⟩
          have e34 : a.eval (.tmp 34) = .pointer (some ⟨p, 0, none⟩) := (c.new 5 34 (by kernel_rfl) (by kernel_rfl))
          generalize a.eval = ρ at e34 ⊢
          simp [execOp, e34, go_sem]
        · refine op_value fun a w c => ⟨(wanted_plain rfl), .pointer (some ⟨p, 1, none⟩), ?_, rfl⟩
          have e35 : a.eval (.tmp 35) = .pointer (some ⟨p, 0, none⟩) := (c.new 6 35 (by kernel_rfl) (by kernel_rfl))
          generalize a.eval = ρ at e35 ⊢
          simp [execOp, e35, go_sem]
        · refine op_value fun a w c => ⟨(wanted_plain rfl), .int .i64 (at_ : Int), ?_, rfl⟩
          have e36 : a.eval (.tmp 36) = .pointer (some ⟨p, 1, none⟩) := (c.new 7 36 (by kernel_rfl) (by kernel_rfl))
          have hc := (c.ev.cell (p := ⟨p, 1, none⟩) hlt).trans h1
          generalize a.eval = ρ at e36 ⊢
          simp [execOp, e36, hc, go_sem]
        · refine op_value fun a w c => ⟨(wanted_plain rfl), _, run_move _ rfl w, (c.was 0 (by kernel_rfl) rfl)⟩
        · refine op_value fun a w c => ⟨(wanted_plain rfl), .pointer (some ⟨p, 0, none⟩), ?_, rfl⟩
          have e38 : a.eval (.tmp 38) = .pointer (some ⟨p, 0, none⟩) := (c.new 9 38 (by kernel_rfl) (by kernel_rfl))
          generalize a.eval = ρ at e38 ⊢
          simp [execOp, e38, go_sem]
        · refine op_value fun a w c => ⟨(wanted_plain rfl), .pointer (some ⟨p, 1, none⟩), ?_, rfl⟩
          have e39 : a.eval (.tmp 39) = .pointer (some ⟨p, 0, none⟩) := (c.new 10 39 (by kernel_rfl) (by kernel_rfl))
          generalize a.eval = ρ at e39 ⊢
          simp [execOp, e39, go_sem]
        · refine op_value fun a w c => ⟨(wanted_plain rfl), .int .i64 (at_ : Int), ?_, rfl⟩
          have e40 : a.eval (.tmp 40) = .pointer (some ⟨p, 1, none⟩) := (c.new 11 40 (by kernel_rfl) (by kernel_rfl))
          have hc := (c.ev.cell (p := ⟨p, 1, none⟩) hlt).trans h1
          generalize a.eval = ρ at e40 ⊢
          simp [execOp, e40, hc, go_sem]
        · refine op_value fun a w c => ⟨(wanted_plain rfl), _, run_move _ rfl w, (c.was 1 (by kernel_rfl) rfl)⟩
        · refine op_value fun a w c => ⟨(wanted_plain rfl), .int .i64 ((at_ : Int) + k), ?_, rfl⟩
          have e41 : a.eval (.tmp 41) = .int .i64 (at_ : Int) := (c.new 12 41 (by kernel_rfl) (by kernel_rfl))
          have e42 : a.eval (.tmp 42) = .int .i64 (k : Int) := (c.new 13 42 (by kernel_rfl) (by kernel_rfl))
          generalize a.eval = ρ at e41 e42 ⊢
          simp [execOp, e41, e42, go_sem, hw64]
        · refine op_value fun a w c => ⟨(wanted_plain rfl), .slice A1 k (cap - at_), ?_, rfl⟩
          have e33 : a.eval (.tmp 33) = .slice A n cap := (c.new 4 33 (by kernel_rfl) (by kernel_rfl))
          have e37 : a.eval (.tmp 37) = .int .i64 (at_ : Int) := (c.new 8 37 (by kernel_rfl) (by kernel_rfl))
          have e43 : a.eval (.tmp 43) = .int .i64 ((at_ : Int) + k) := (c.new 14 43 (by kernel_rfl) (by kernel_rfl))
          generalize a.eval = ρ at e33 e37 e43 ⊢
          simp [execOp, e33, e37, e43, go_sem, b0, b1, b2, hA1, hkk]
        · refine op_makes fun a w c => ?_
          have e29 : EmptyRow (a.eval (.tmp 29)) w := (c.new 0 29 (by kernel_rfl) (by kernel_rfl))
          have e44 : a.eval (.tmp 44) = .slice A1 k (cap - at_) := (c.new 15 44 (by kernel_rfl) (by kernel_rfl))
          obtain ⟨v_, w_, hr_, hH_, hE_⟩ := run_append_empty 33 Try.underlying33 Try.infoU8 _ w e29 _ _ _ _ (hBs.below c.ev) hln
          refine ⟨(wanted_plain rfl), v_, w_, ?_, hE_, hH_⟩
          unfold execOp
          simp only [resolve, invoke, builtin, Sem.run_bind, Sem.run_pure, Result.andThen_ok, List.map_toArray, List.map_cons, List.map_nil, e44, hr_]
        · refine op_value fun a w c => ⟨(wanted_plain rfl), _, run_assign _ rfl w, (c.new 16 45 (by kernel_rfl) (by kernel_rfl))⟩
      · intro s w1 hE hold hnew
        have f0 : s 0 = .pointer (some ⟨p, 0, none⟩) := hold 0 (by kernel_rfl)
        have f1 : s 1 = .int .i64 (k : Int) := hold 1 (by kernel_rfl)
        obtain ⟨A5, n5, cap5, f5, hB5⟩ := (hnew 17 5 (by kernel_rfl) : Holds ((L.drop at_).take k) (s 5) w1)
        have f30 : s 30 = .pointer (some ⟨p, 0, none⟩) := hnew 1 30 (by kernel_rfl)
        have f31 : s 31 = .pointer (some ⟨p, 0, none⟩) := hnew 2 31 (by kernel_rfl)
        have f32 : s 32 = .pointer (some ⟨p, 0, none⟩) := hnew 3 32 (by kernel_rfl)
        have f33 : s 33 = .slice A n cap := hnew 4 33 (by kernel_rfl)
        have f34 : s 34 = .pointer (some ⟨p, 0, none⟩) := hnew 5 34 (by kernel_rfl)
        have f35 : s 35 = .pointer (some ⟨p, 0, none⟩) := hnew 6 35 (by kernel_rfl)
        have f36 : s 36 = .pointer (some ⟨p, 1, none⟩) := hnew 7 36 (by kernel_rfl)
        have f37 : s 37 = .int .i64 (at_ : Int) := hnew 8 37 (by kernel_rfl)
        have f38 : s 38 = .pointer (some ⟨p, 0, none⟩) := hnew 9 38 (by kernel_rfl)
        have f39 : s 39 = .pointer (some ⟨p, 0, none⟩) := hnew 10 39 (by kernel_rfl)
        have f40 : s 40 = .pointer (some ⟨p, 1, none⟩) := hnew 11 40 (by kernel_rfl)
        have f41 : s 41 = .int .i64 (at_ : Int) := hnew 12 41 (by kernel_rfl)
        have f42 : s 42 = .int .i64 (k : Int) := hnew 13 42 (by kernel_rfl)
        have f43 : s 43 = .int .i64 ((at_ : Int) + k) := hnew 14 43 (by kernel_rfl)
        have f44 : s 44 = .slice A1 k (cap - at_) := hnew 15 44 (by kernel_rfl)
        obtain ⟨A45, n45, cap45, f45, hB45⟩ := (hnew 16 45 (by kernel_rfl) : Holds ((L.drop at_).take k) (s 45) w1)
        change Exit.then _ _ .normal ⟨#[s 0, s 1, s 2, s 3, s 4, s 5, s 6, s 7, s 8, s 9, s 10, s 11, s 12, s 13, s 14, s 15, s 16, s 17, s 18, s 19, s 20, s 21, s 22, s 23, s 24, s 25, s 26, s 27, s 28, s 29, s 30, s 31, s 32, s 33, s 34, s 35, s 36, s 37, s 38, s 39, s 40, s 41, s 42, s 43, s 44, s 45, s 46, s 47, s 48, s 49, s 50, s 51, s 52, s 53, s 54, s 55], _⟩ _
        simp only [f0, f1, f5, f30, f31, f32, f33, f34, f35, f36, f37, f38, f39, f40, f41, f42, f43, f44, f45]
        generalize s 2 = u2
        generalize s 3 = u3
        generalize s 4 = u4
        generalize s 6 = u6
        generalize s 7 = u7
        generalize s 8 = u8
        generalize s 9 = u9
        generalize s 10 = u10
        generalize s 11 = u11
        generalize s 12 = u12
        generalize s 13 = u13
        generalize s 14 = u14
        generalize s 15 = u15
        generalize s 16 = u16
        generalize s 17 = u17
        generalize s 18 = u18
        generalize s 19 = u19
        generalize s 20 = u20
        generalize s 21 = u21
        generalize s 22 = u22
        generalize s 23 = u23
        generalize s 24 = u24
        generalize s 25 = u25
        generalize s 26 = u26
        generalize s 27 = u27
        generalize s 28 = u28
        generalize s 46 = u46
        generalize s 47 = u47
        generalize s 48 = u48
        generalize s 49 = u49
        generalize s 50 = u50
        generalize s 51 = u51
        generalize s 52 = u52
        generalize s 53 = u53
        generalize s 54 = u54
        generalize s 55 = u55
        have hR3 := hR2.ev hE
        have c1 := hR3.c1
        have f1 := hR3.f 1
        have HR3 := Lib.hid hR3
        have hb : But [p] w1 (w1.setCell ⟨p, 1, none⟩ (.int .i64 ((at_ + k : Nat) : Int))) := But.setCell _ _ (by simp)
        have HBB := Lib.hid hb
        have HSET := Lib.hid (set_heap 1 (.int .i64 ((at_ + k : Nat) : Int)) hR3.blk)
        have HB5 := Lib.hid (hB5.beside hR3.blk HBB.out)
        have hE9 := hE0.trans hE
        clear hold hnew h0 h1 hlt hA1 hln hkk b0 b1 b2 hw64 hBs hR2 hR3 hb hE
        go_wp2
        go_ret
        simp only [Int.natCast_add] at *
        exact ⟨_, _, _, rfl, HB5.out, ⟨at_ + k, false, y, z, HR3.out.set HSET.out ⟨fun _ => ⟨rfl, rfl⟩, fun c => absurd hw c⟩ HBB.out hp⟩, (But.of_ev hE9).then HBB.out⟩
    · have e : rdTake L why at_ k = ([], rdStop why at_ 10 L.length) := by unfold rdTake rdLeft; rw [if_neg (by rw [if_pos hw]; omega)]
      rw [e, hl]
      have hng : (n : Int) - at_ < k := by omega
      have HQ := Lib.hid hq; have HH := Lib.hid hR0
      clear e hl hq hR0
      go_enter Try.func77, Try.ntmps77
      go_wp2
      go_quiet (fail)
      have hq2 := HQ.out.ev (Ev.drewN w nq)
      have h0' := (HH.out.ev (Ev.drewN w nq)).c0
      have hE0 := Ev.drewN w nq
      generalize w.drewN nq = w2 at *
      go_wp2_with (first | (refine (HC.out _ hq2).mono ?_; rintro x w3 ⟨rfl, hR, hB⟩))
      go_ret
      exact ⟨none, 0, 0, rfl, Bs.nil_ _, hR, (But.of_ev hE0).then hB⟩
  · obtain ⟨rfl, rfl, rfl⟩ := hR0.says.yes hw
    have e : ((rdTake L y z k).1 = []) ∧ (rdTake L y z k).2 = (y, z) := by
      unfold rdTake rdLeft
      rw [if_neg hw]
      split
      · have : k = 0 := by omega
        subst this
        simp
      · simp [rdStop, hw]
    rw [e.1, e.2]
    clear e hl
    go_enter Try.func77, Try.ntmps77
    go_wp2
    go_ret
    exact ⟨none, 0, 0, rfl, Bs.nil_ _, hq, But.refl _ _⟩

set_option maxRecDepth 100000 in
set_option maxHeartbeats 1600000 in
theorem ref_number (k : Nat) (w : World) (h : Rqs p A n cap L why pos w) (hk : k ≤ 8) :
    Calls Try.prog 64 #[.pointer (some ⟨p, 0, none⟩), .int .i64 (k : Int)] w fun e w' => e = .returned (.int .u64 (leVal (rdTake L why pos k).1 : Int)) ∧
      Rqs p A n cap L (rdTake L why pos k).2.1 (rdTake L why pos k).2.2 w' ∧ But [p] w w' := by
  have HC := Lib.hid (ref_raw k w h (by omega))
  have hlen := rdTake_le L why pos k
  generalize rdTake L why pos k = T at *
  obtain ⟨M, e, q⟩ := T
  simp only at *
  have hMl := leVal_lt M
  have hMp : 256 ^ M.length ≤ 256 ^ 8 := Nat.pow_le_pow_right (by decide) (by omega)
  have HML := Lib.hid hMl; have HMP := Lib.hid hMp
  clear hMl hMp
  go_enter Try.func64, Try.ntmps64
  go_wp2_with (first | ((with_reducible refine HC.out.mono ?_); rintro x w1 ⟨A1, n1, cap1, rfl, hB, hR, hb⟩))
  have hl1 := hB.len
  obtain ⟨m0, hm0⟩ : ∃ m, M.length = m := ⟨_, rfl⟩
  have hn1 : n1 = m0 := by omega
  subst hn1
  have hm8 : n1 ≤ 8 := by omega
  have HM0 := Lib.hid hm0
  clear hm0 hl1 hlen
  go_loop [6, 7] (fun x i => ∃ j : Nat, j ≤ n1 ∧ i = .int .i64 ((j : Int) - 1) ∧ x = .int .u64 (leVal (M.drop j) : Int)) (fun _ i => (intOf i + 1).toNat)
  case atStart => exact ⟨n1, Nat.le_refl _, congrArg (Value.int .i64) (by unfold wrap64; omega), by rw [List.drop_of_length_le (by rw [HM0.out]; exact Nat.le_refl _)]; rfl⟩
  case round =>
    obtain ⟨j, hj, rfl, rfl⟩ := hrel
    by_cases hlt : 0 < j
    · obtain ⟨i, rfl⟩ : ∃ i, j = i + 1 := ⟨j - 1, by omega⟩
      obtain ⟨b, off, rfl, hbl, hc⟩ := hB.rd (by omega)
      have hcl := hc i (by omega)
      obtain ⟨c, hcc⟩ : ∃ c, M.getD i 0 = c := ⟨_, rfl⟩
      rw [hcc] at hcl
      have hil : i < M.length := by rw [HM0.out]; omega
      have hdr : M.drop i = c :: M.drop (i + 1) := by
        rw [List.drop_eq_getElem_cons hil]
        congr 1
        rw [← hcc]; simp [List.getD, hil]
      have hstep : leVal (M.drop i) = leVal (M.drop (i + 1)) * 256 + c.toNat := by rw [hdr, leVal]; omega
      have hle : leVal (M.drop i) < 18446744073709551616 := by
        have h1 := leVal_lt (M.drop i)
        have h2 : 256 ^ (M.drop i).length ≤ 256 ^ 8 := Nat.pow_le_pow_right (by decide) (by simp; have := HM0.out; omega)
        omega
      have hx : leVal (M.drop (i + 1)) * 256 < 18446744073709551616 := by omega
      have HO := or_low (leVal (M.drop (i + 1))) c hx
      have HST := Lib.hid hstep
      clear hdr hstep hle hcc hil
      generalize leVal (M.drop (i + 1)) = x at *
      have HO := Lib.hid HO
      have hcn := c.toNat_lt
      simp only [Int.natCast_add, Int.natCast_one, Int.add_sub_cancel] at *
      go_wp2
      go_round
      case rel => exact ⟨i, by omega, by go_num, by rw [HST.out]; go_num⟩
      case measure => simp [intOf]
    · obtain rfl : j = 0 := by omega
      rw [List.drop_zero]
      go_wp2
      go_ret
      exact ⟨rfl, hR, hb⟩
end Go.Proofs.Ytkjodlngpdihhaa
