/-
  Save: the table as bytes.
-/
import Derived.Test.YtdfoangkjeoomaaNd
import Derived.Test.YtdfoangkjeoomaaNf
import Derived.Great.Walk
import Derived.Deep.Cut
namespace Go.Proofs.Ytdfoangkjeoomaa
open Go.RowKit
set_option linter.unusedVariables false
set_option maxRecDepth 100000

theorem Try.sizeTab : (Try.prog.info? 52).map (·.size) = some 64 := by kernel_rfl
theorem Try.sizeReq : (Try.prog.info? 51).map (·.size) = some 4 := by kernel_rfl
theorem run_loadAt_any (P : Program) (t : TypeId) (a : Addr) (w : World) : (Instr.loadAt t (.pointer (some a))).run P w = (loadVar t a).run P w := by rfl
theorem run_load_tab {ρ : Operand → Value} {o : Oper} {x : Operand} {p : Nat} {T : List RQ} {w : World} (ho : o.op = .load 52 x) (hx : ρ x = .pointer (some ⟨p, 0, none⟩)) (h : TbAt p T w) :
    (execOp ρ o).run Try.prog w = .ok (.value (.agg (tcells T).toArray)) w := by
  have h1 := run_loadVar_row (P := Try.prog) w p 54 52 (tcells T).toArray (0, 0) _ h.1 Try.underlying52 rfl (by rw [Try.sizeTab]; simp [tcells_length, h.2])
  rw [← run_loadAt_any] at h1
  unfold execOp
  rw [ho]
  simp only [hx, Sem.run_bind, h1, Result.andThen_ok, Sem.run_pure]
theorem tcells_part {T : List RQ} {k : Nat} (hk : k < T.length) : List.take 4 (List.drop (k * 4) (tcells T)) = qcells (T.getD k rq0) := by
  apply List.ext_getElem?
  intro i
  have hg : T[k]? = some (T.getD k rq0) := by simp [List.getD, hk]
  by_cases hi : i < 4
  · rw [List.getElem?_take_of_lt hi, List.getElem?_drop, show k * 4 + i = 4 * k + i by omega, tcells_get T k _ i hg hi]
  · rw [List.getElem?_eq_none (by simp; omega), List.getElem?_eq_none (by simp [qcells]; omega)]
theorem run_index_tab {ρ : Operand → Value} {o : Oper} {x y : Operand} {T : List RQ} {k : Nat} {w : World} (ho : o.op = .index 52 x y) (hx : ρ x = .agg (tcells T).toArray) (hy : ρ y = .int .i64 (k : Int)) (hT : T.length = 16) (hk : k < 16) :
    (execOp ρ o).run Try.prog w = .ok (.value (.agg (qcells (T.getD k rq0)).toArray)) w := by
  have h1 := tcells_part (T := T) (k := k) (by omega)
  unfold execOp
  rw [ho]
  simp [hx, hy, Instr.index, part, go_sem, hk]
  rw [h1]
  simp [List.getD]

/-- Block g is a Writer of the call's own, made since w. -/
structure WrN (w : World) (g : Nat) (v : Value) (l : List UInt8) (w1 : World) : Prop where
  wr : Wr g v l w1
  own : ∀ b, v.ownBlock = some b → w.heap.size ≤ b
  new : w.heap.size ≤ g
  ev : Ev w w1
theorem WrN.step {w : World} {g : Nat} {v v' : Value} {l l' : List UInt8} {w1 w2 : World} (h : WrN w g v l w1) (hW : Wr g v' l' w2) (hT : Wrote g v w1 v' w2) : WrN w g v' l' w2 :=
  ⟨hW, fun b hb => by
    rcases hT.sprung b hb with h1 | h1
    · exact h.own b h1
    · exact Nat.le_trans h.ev.size h1, h.new, ((But.of_ev (K := []) h.ev).trans hT.but (fun x hx => by
      rcases List.mem_cons.1 hx with rfl | hx
      · exact .inr h.new
      · exact .inr (h.own x (mem_foot.1 hx)))).ev (by simp)⟩
theorem WrN.grow {w : World} {g : Nat} {v : Value} {l : List UInt8} {w1 w2 : World} (h : WrN w g v l w1) (hE : Ev w1 w2) : WrN w g v l w2 := ⟨h.wr.ev hE, h.own, h.new, h.ev.trans hE⟩
/-- A box of another type stays as it is. -/
theorem box_keep {g b : Nat} {v v' : Value} {l : List UInt8} {w1 w2 : World} {cs : Array Value} {T : TypeId} (hb : w1.heap[b]? = some (.cells cs T (0, 0))) (hT1 : T ≠ 72) (hT2 : T ≠ 5) (hW : Wr g v l w1) (hT : Wrote g v w1 v' w2) : w2.heap[b]? = some (.cells cs T (0, 0)) := by
  refine hT.but.heap hb fun hm => ?_
  rcases List.mem_cons.1 hm with rfl | hm
  · have h1 := hW.1
    rw [hb] at h1
    simp only [Option.some.injEq, Obj.cells.injEq] at h1
    exact hT1 h1.2.1
  · exact hW.2.ne_block hb hT2 (mem_foot.1 hm)
theorem take_snoc {T : List RQ} {k : Nat} (hk : k < T.length) : T.take (k + 1) = T.take k ++ [T.getD k rq0] := by
  rw [List.take_add_one]
  simp [List.getD, hk]
theorem saveB_snoc {T : List RQ} {k : Nat} (hk : k < T.length) : saveB (T.take (k + 1)) = saveB (T.take k) ++ qBytes (T.getD k rq0) := by
  rw [take_snoc hk]; simp [saveB]
theorem saveB_take (T : List RQ) (k : Nat) : (saveB (T.take k)).length ≤ (saveB T).length := by
  have h : saveB T = saveB (T.take k) ++ saveB (T.drop k) := by
    rw [saveB, saveB, saveB, ← List.flatMap_append, List.take_append_drop]
  rw [h, List.length_append]; omega

set_option maxHeartbeats 3200000 in
theorem sess_save_row (p : Nat) (T : List RQ) (w : World) (h : TbAt p T w) (hl : (saveB T).length + 16 ≤ 140737488355328) :
    Calls Try.prog 11 #[.pointer (some ⟨p, 0, none⟩)] w fun e w' => ∃ A' cap', e = .returned (.slice A' (saveB T).length cap') ∧ Row w' (.slice A' (saveB T).length cap') (saveB T) ∧ New w w' A' ∧ Ev w w' := by
  have HT := Lib.hid h
  have hlt := h.lt
  have hT16 := h.2
  have HN := Lib.hid (new_writer w)
  have hWn : WrN w w.heap.size (.slice none 0 0) [] (w.alloc (.cells #[.slice none 0 0] 72)) := ⟨Wr.new w, fun b hb => (by cases hb), Nat.le_refl _, Ev.alloc _ _⟩
  have HLd := Lib.hid (fun (o : Oper) (ρ : Operand → Value) (x : Operand) (ho : o.op = .load 52 x) (hx : ρ x = .pointer (some ⟨p, 0, none⟩)) => run_load_tab ho hx (h.ev hWn.ev))
  have HWn := Lib.hid hWn
  clear h hWn
  go_enter Try.func11, Try.ntmps11
  go_upto_region 4 with (first | (refine HN.out.mono ?_; rintro e w1 ⟨rfl, rfl⟩))
  refine wp_region_list ?_
  refine Great.wpList_readTo rfl (some 9) rfl (.pointer (some ⟨p, 0, none⟩)) (by simp [execOp, go_sem]) ?_
  refine Great.wpList_readTo rfl (some 10) rfl (.pointer (some ⟨p, 0, none⟩)) (by simp [execOp, go_sem]) ?_
  refine Great.wpList_readTo rfl (some 11) rfl (.pointer (some ⟨p, 0, none⟩)) (by simp [execOp, go_sem]) ?_
  refine Great.wpList_readTo rfl (some 12) rfl (.agg (tcells T).toArray) (HLd.out _ _ _ rfl rfl) ?_
  refine Great.wpList_readTo rfl (some 13) rfl (.int .i64 0) (by simp [execOp, go_sem]) ?_
  simp only [Act.put, List.setIfInBounds_toArray, List.set_cons_succ, List.set_cons_zero]
  go_wp2
  go_loopw [13] (fun x wr => ∃ (k : Nat) (vr : Value), k ≤ 16 ∧ x = .int .i64 (k : Int) ∧ WrN w w.heap.size vr (saveB (T.take k)) wr) (fun x _ => 16 - (intOf x).toNat)
  case atStart => exact ⟨0, _, Nat.zero_le _, rfl, HWn.out⟩
  case round =>
    rename_i wr
    obtain ⟨k, vr, hk, rfl, hW⟩ := hrel
    by_cases hlt : k < 16
    · have hq : T[k]? = some (T.getD k rq0) := by simp [List.getD, show k < T.length by omega]
      have hsn := saveB_snoc (T := T) (k := k) (by omega)
      have hsz := saveB_take T (k + 1)
      have hp := tcells_part (T := T) (k := k) (by omega)
      have HIx := Lib.hid (fun (o : Oper) (ρ : Operand → Value) (x y : Operand) (ho : o.op = .index 52 x y) (hx : ρ x = .agg (tcells T).toArray) (hy : ρ y = .int .i64 (k : Int)) => run_index_tab (w := wr) ho hx hy hT16 hlt)
      generalize T.getD k rq0 = q at *
      obtain ⟨q0, q1, q2, q3⟩ := q
      rw [hsn] at hsz
      simp only [qBytes, List.length_append, le_length] at hsz
      have HSn := Lib.hid hsn; have HSz := Lib.hid hsz; have HW := Lib.hid hW; have HL := Lib.hid hl
      clear hsn hsz hW hq hp hl hT16
      go_upto_region 6 with fail
      refine wp_region_list ?_
      refine Great.wpList_readTo rfl (some 15) rfl (.agg #[.int .i64 q0, .int .i64 q1, .int .i64 q2, .string q3]) (HIx.out _ _ _ _ rfl rfl rfl) ?_
      simp only [Act.put, List.setIfInBounds_toArray, List.set_cons_succ, List.set_cons_zero]
      have hb0 : (wr.alloc (.cells #[.int .i64 q0, .int .i64 q1, .int .i64 q2, .string q3] 51)).heap[wr.heap.size]? = some (.cells #[.int .i64 q0, .int .i64 q1, .int .i64 q2, .string q3] 51 (0, 0)) := heap_alloc_new wr _
      have hW0 := HW.out.grow (Ev.alloc wr (.cells #[.int .i64 q0, .int .i64 q1, .int .i64 q2, .string q3] 51))
      have HB0 := Lib.hid hb0; have HW0 := Lib.hid hW0
      clear hb0 hW0
      have HLo := Lib.hid (fun (v : Value) (l : List UInt8) (x : Int) (w1 : World) (h : Wr w.heap.size v l w1) (hl : l.length + 8 ≤ 140737488355328) => writer_long w.heap.size v l x w1 h hl)
      have HNa := Lib.hid (fun (v : Value) (l : List UInt8) (s : ByteArray) (w1 : World) (h : Wr w.heap.size v l w1) (hl : l.length + (nameB s.data.toList).length + 8 ≤ 140737488355328) => sess_writeName w.heap.size v l s w1 h hl)
      go_upto_region 8 with (refine (HLo.out _ _ q0 _ HW0.out.wr (by have := HSz.out; have := HL.out; omega)).mono ?_; rintro e w1 ⟨rfl, v1, hW1, hT1⟩)
      have S1 := HW0.out.step hW1 hT1
      have hb1 := box_keep HB0.out (by decide) (by decide) HW0.out.wr hT1
      have c1_0 : w1.cell? ⟨wr.heap.size, 0, none⟩ = some (.int .i64 q0) := by rw [Lib.cell_of_heap hb1]; rfl
      have c1_1 : w1.cell? ⟨wr.heap.size, 1, none⟩ = some (.int .i64 q1) := by rw [Lib.cell_of_heap hb1]; rfl
      have c1_2 : w1.cell? ⟨wr.heap.size, 2, none⟩ = some (.int .i64 q2) := by rw [Lib.cell_of_heap hb1]; rfl
      have c1_3 : w1.cell? ⟨wr.heap.size, 3, none⟩ = some (.string q3) := by rw [Lib.cell_of_heap hb1]; rfl
      have HS1 := Lib.hid S1; have HB1 := Lib.hid hb1
      clear S1 hb1 hW1 hT1
      go_upto_region 9 with (refine (HLo.out _ _ q1 _ HS1.out.wr (by have := HSz.out; have := HL.out; simp only [List.length_append, le_length]; omega)).mono ?_; rintro e w2 ⟨rfl, v2, hW2, hT2⟩)
      have S2 := HS1.out.step hW2 hT2
      have hb2 := box_keep HB1.out (by decide) (by decide) HS1.out.wr hT2
      have c2_0 : w2.cell? ⟨wr.heap.size, 0, none⟩ = some (.int .i64 q0) := by rw [Lib.cell_of_heap hb2]; rfl
      have c2_1 : w2.cell? ⟨wr.heap.size, 1, none⟩ = some (.int .i64 q1) := by rw [Lib.cell_of_heap hb2]; rfl
      have c2_2 : w2.cell? ⟨wr.heap.size, 2, none⟩ = some (.int .i64 q2) := by rw [Lib.cell_of_heap hb2]; rfl
      have c2_3 : w2.cell? ⟨wr.heap.size, 3, none⟩ = some (.string q3) := by rw [Lib.cell_of_heap hb2]; rfl
      have HS2 := Lib.hid S2; have HB2 := Lib.hid hb2
      clear S2 hb2 hW2 hT2
      go_upto_region 10 with (refine (HLo.out _ _ q2 _ HS2.out.wr (by have := HSz.out; have := HL.out; simp only [List.length_append, le_length]; omega)).mono ?_; rintro e w3 ⟨rfl, v3, hW3, hT3⟩)
      have S3 := HS2.out.step hW3 hT3
      have hb3 := box_keep HB2.out (by decide) (by decide) HS2.out.wr hT3
      have c3_0 : w3.cell? ⟨wr.heap.size, 0, none⟩ = some (.int .i64 q0) := by rw [Lib.cell_of_heap hb3]; rfl
      have c3_1 : w3.cell? ⟨wr.heap.size, 1, none⟩ = some (.int .i64 q1) := by rw [Lib.cell_of_heap hb3]; rfl
      have c3_2 : w3.cell? ⟨wr.heap.size, 2, none⟩ = some (.int .i64 q2) := by rw [Lib.cell_of_heap hb3]; rfl
      have c3_3 : w3.cell? ⟨wr.heap.size, 3, none⟩ = some (.string q3) := by rw [Lib.cell_of_heap hb3]; rfl
      have HS3 := Lib.hid S3; have HB3 := Lib.hid hb3
      clear S3 hb3 hW3 hT3
      go_wp2_with (refine (HNa.out _ _ q3 _ HS3.out.wr (by have := HSz.out; have := HL.out; simp only [List.length_append, le_length]; omega)).mono ?_; rintro e w4 ⟨rfl, v4, hW4, hT4⟩)
      refine ⟨⟨k + 1, v4, by omega, by simp, ?_⟩, by simp [intOf]; omega⟩
      rw [HSn.out]
      have hS4 := HS3.out.step hW4 hT4
      simpa only [qBytes, List.append_assoc] using hS4
    · have h16 : k = 16 := by omega
      subst h16
      have hW' := hW
      rw [List.take_of_length_le (by omega)] at hW'
      have HD := Lib.hid (writer_done_row w.heap.size vr (saveB T) wr hW'.wr (by omega))
      clear hW hl
      go_wp2_with (refine HD.out.mono ?_; rintro e w1 ⟨A1, cap1, rfl, hB1, hN1, hE1⟩)
      go_ret
      exact ⟨A1, cap1, rfl, hB1, fun ad e => ⟨Nat.le_trans hW'.ev.size (hN1 ad e).1, (hN1 ad e).2⟩, hW'.ev.trans hE1⟩
theorem sess_save (p : Nat) (T : List RQ) (w : World) (h : TbAt p T w) (hl : (saveB T).length + 16 ≤ 140737488355328) :
    Calls Try.prog 11 #[.pointer (some ⟨p, 0, none⟩)] w fun e w' => ∃ A' cap', e = .returned (.slice A' (saveB T).length cap') ∧ Bs w' A' (saveB T).length cap' (saveB T) ∧ New w w' A' ∧ Ev w w' := by
  refine (sess_save_row p T w h hl).mono ?_
  rintro e w' ⟨A', cap', rfl, hR, hN, hE⟩
  obtain ⟨A2, cap2, e2, hB, _⟩ := hR.bs
  simp only [Value.slice.injEq] at e2
  obtain ⟨rfl, _, rfl⟩ := e2
  exact ⟨_, _, rfl, hB, hN, hE⟩
end Go.Proofs.Ytdfoangkjeoomaa
