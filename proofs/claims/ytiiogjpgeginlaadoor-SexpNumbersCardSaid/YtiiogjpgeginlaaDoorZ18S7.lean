/-
  Texts that belong together: Package sexp: Print of what is no tree; Print of whatever was read. The walk of SexpNumbers.
-/
import Derived.Test.YtiiogjpgeginlaaDoorZ17S7
import Derived.Test.YtiiogjpgeginlaaDoorZ16S7
import Derived.Test.YtiiogjpgeginlaaDoorZ15S7
import Derived.Test.YtiiogjpgeginlaaDoorZ12S7
namespace Go.Proofs.YtiiogjpgeginlaaDoor
open Go.RowKit
set_option linter.unusedVariables false

set_option maxRecDepth 100000 in
set_option maxHeartbeats 2000000 in
theorem builder_string0 (b : Nat) (p : Value) (w : World) (hbk : w.heap[b]? = some (.cells #[p, .slice none 0 0] 62 (0, 0))) :
    Calls Tryd.prog 27 #[.pointer (some ⟨b, 0, none⟩)] w fun e w' => e = .returned (.string ⟨#[]⟩) ∧ Ev w w' := by
  have mixed : Tryd.prog.follows .mixedOrders = true := by kernel_rfl
  have hUS : ∀ (W : World) (q : Option Addr), (Builtin.unsafeString_ #[98, 3] 9 #[.pointer q, .int .i64 0]).run Tryd.prog W = .ok (.string .empty) W := fun W q => Lib.run_unsafeString_none W _ _ _ q
  have c1 : w.drew.cell? ⟨b, 1, none⟩ = some (.slice none 0 0) := by
    have : w.drew.heap[b]? = some (.cells #[p, .slice none 0 0] 62 (0, 0)) := hbk
    rw [Lib.cell_of_heap this]; rfl
  have hSD : (Builtin.unsafeSliceData_ #[37] 98 #[.slice none 0 0]).run Tryd.prog w.drew = .ok (.pointer none) w.drew := rfl
  go_enter Tryd.func27, Tryd.ntmps27
  go_wp2
  go_region_o
  all_goals (go_wp2; go_ret; exact ⟨rfl, Ev.drew _⟩)

set_option maxRecDepth 100000 in
set_option maxHeartbeats 2000000 in
theorem sx_write0 (m : M) (hk : m.kind = 0) (b : Nat) (w : World) :
    Calls Tryd.prog 26 #[.pointer (some ⟨b, 0, none⟩), .agg #[.int .i64 m.kind, .string ⟨m.s.toArray⟩, .int .i64 m.n, .slice m.A m.kids.length m.cap, .int .i64 (m.pos : Int)]] w fun e w' => e = .returned (.tuple #[]) ∧ Ev w w' := by
  rw [hk]
  go_enter Tryd.func26, Tryd.ntmps26
  go_wp2
  go_end0
  exact ⟨rfl, Ev.alloc _ _⟩

set_option maxRecDepth 100000 in
set_option maxHeartbeats 4000000 in
theorem sx_print0 {w0 : World} {b0 : Nat} {m : M} (h : Lies b0 [] w0 m) (hk : m.kind = 0) (hsz : m.t.size ≤ 100000) :
    Calls Tryd.prog 8 #[.agg #[.int .i64 m.kind, .string ⟨m.s.toArray⟩, .int .i64 m.n, .slice m.A m.kids.length m.cap, .int .i64 (m.pos : Int)]] w0 fun r w'' => r = .returned (.string ⟨#[]⟩) ∧ Ev w0 w'' := by
  have HE := Lib.hid (fun wa (hE : Ev w0 wa) => sx_hasEnd m b0 wa (h.ev hE) hsz)
  have HW := Lib.hid (fun b wa => sx_write0 m hk b wa)
  have HS := Lib.hid (fun b wa (hb : Bx 62 b #[.pointer none, .slice none 0 0] wa) => builder_string0 b (.pointer none) wa hb.blk)
  have hc1 := h.ms.le
  have hc2 := h.ms.max
  clear hk hsz
  go_enter Tryd.func8, Tryd.ntmps8
  go_wp2_with (first
    | ((with_reducible refine (HE.out _ (Ev.alloc _ _)).mono ?_); rintro r w1 ⟨rfl, hE1⟩; obtain ⟨c0, c1, c2, c3, c4⟩ := box_cells (box_ev (tree_box w0 m) (hE1.trans (Ev.alloc w1 (.cells #[.pointer none, .slice none 0 0] 62)))); have B1 := Bx.new 62 #[.pointer none, .slice none 0 0] w1)
    | ((with_reducible refine (HW.out _ _).mono ?_); rintro r w2 ⟨rfl, hE2⟩; replace B1 := B1.ev hE2)
    | ((with_reducible refine (HS.out _ _ B1).mono ?_); rintro r w4 ⟨rfl, hE4⟩))
  go_ret
  exact ⟨rfl, ((((Ev.alloc _ _).trans hE1).trans (Ev.alloc _ _)).trans hE2).trans hE4⟩
/-- Print, whatever the tree. -/
theorem sx_printAny {w0 : World} (hT : Tab w0) {b0 : Nat} {m : M} (h : Lies b0 [] w0 m) (hsz : m.t.size ≤ 100000) (hlen : (printS m.t).length ≤ 1000000) (hne : printS m.t ≠ [] ∨ m.kind = 0) (hfit : fitsS m.t = true) :
    Calls Tryd.prog 8 #[.agg #[.int .i64 m.kind, .string ⟨m.s.toArray⟩, .int .i64 m.n, .slice m.A m.kids.length m.cap, .int .i64 (m.pos : Int)]] w0 fun r w'' => r = .returned (.string ⟨(printS m.t).toArray⟩) ∧ Ev w0 w'' := by
  by_cases hk : m.kind = 0
  · have hp : printS m.t = [] := by
      rw [M.t_eq, hk]
      unfold printS
      simp
    rw [hp]
    exact sx_print0 h hk hsz
  · rcases hne with hne | hne
    · exact sx_print hT h hlen hne hfit (fun w' hE => sx_hasEnd m b0 w' (h.ev hE) hsz)
    · exact absurd hne hk
end Go.Proofs.YtiiogjpgeginlaaDoor

namespace Go.Proofs.YtiiogjpgeginlaaDoor
open Go.RowKit
set_option linter.unusedVariables false

theorem wp_world_eq {P : Program} {c : Code} {Q : Exit → Act → World → Prop} {a : Act} {w w' : World} (h : w = w') (hc : c.wp P Q a w') : c.wp P Q a w := h ▸ hc
theorem run_load_box {P : Program} {ρ : Operand → Value} {o : Oper} {x : Operand} {T : TypeId} {g : Nat} {cs : Array Value} {w : World} {d : TypeDesc} (ho : o.op = .load T x) (hx : ρ x = .pointer (some ⟨g, 0, none⟩)) (hB : Bx T g cs w)
    (hu : P.underlying T = some d) (hd : (match d with | .struct _ | .array _ _ => true | _ => false) = true) (hi : (P.info? T).map (·.size) = some cs.size) :
    (execOp ρ o).run P w = .ok (.value (.agg cs)) w := by
  have h := run_loadVar_row w g T T _ (0, 0) _ hB.blk hu hd hi
  unfold execOp
  rw [ho]
  simp only [hx, Instr.loadAt, Instr.sureAddr, Sem.run_bind, Sem.run_pure, Result.andThen_ok, h]
def numCells : Array Value := (numTexts.map fun l => Value.string ⟨l.toArray⟩).toArray
theorem num_cell {w : World} {k : Nat} {s : By} (h : numTexts[k]? = some s) : (w.alloc (.cells numCells 9)).cell? ⟨w.heap.size, k, none⟩ = some (.string ⟨s.toArray⟩) := by
  rw [Lib.cell_of_heap (heap_alloc_new w _)]
  unfold numCells
  rw [List.getElem?_toArray, List.getElem?_map, h]
  rfl
theorem num_at {k : Nat} {s : By} (h : numTexts[k]? = some s) : rfRead s = sxRead s ∧ numOk s = true := by
  have h1 := congrArg (fun l => l[k]?) num_same
  simp only [List.getElem?_map, h, Option.map_some, Option.some.injEq] at h1
  exact ⟨h1, List.all_eq_true.1 num_ok s (List.mem_of_getElem? h)⟩
theorem read_601 : (sxRead (List.replicate 601 0)) = (sxZero, 3, 0) := by
  unfold sxRead
  rw [if_pos (by rw [List.length_replicate]; omega)]
theorem make_601 (u : World) : (Instr.makeSlice 37 (.int .i64 601) (.int .i64 601)).run Tryd.prog u = .ok (.slice (some ⟨u.heap.size, 0, none⟩) 601 601) (u.alloc (.cells (Array.replicate 601 (.int .u8 0)) 5)) := by
  obtain ⟨i0, hi, hz0, hz1, hz2⟩ := info_parts Tryd.infoU8
  have h := run_make (P := Tryd.prog) u 37 5 i0 _ Tryd.underlying37 hi hz0 .i64 .i64 601 601 (by omega) (Int.le_refl _) (by rw [hz2]; omega) (by omega)
  rw [hz1, show madeCells (Value.int .u8 0).cells (Int.toNat 601 * 1) = Array.replicate 601 (.int .u8 0) by kernel_rfl] at h
  exact h
theorem bs_601 (u : World) : Bs (u.alloc (.cells (Array.replicate 601 (.int .u8 0)) 5)) (some ⟨u.heap.size, 0, none⟩) 601 601 (List.replicate 601 0) := by
  have h := Bs.made (w := u) (List.replicate 601 0) (Array.replicate 601 (.int .u8 0)) (by unfold bvs; rw [List.map_replicate, List.toArray_replicate]; rfl) (by rw [List.length_replicate]; omega)
  rwa [List.length_replicate] at h
theorem lies_zero (w : World) : Lies 0 [] w mzero := .mk (Sl.nil_ w) (fun _ h => by cases h) (fun _ h => by cases h)
theorem num_facts {s : By} (h : numOk s = true) : (printS (sxRead s).1).length ≤ 1000000 ∧ fitsS (sxRead s).1 = true ∧ (sxRead s).1.size ≤ 100000 ∧ (printS (sxRead s).1 ≠ [] ∨ (sxRead s).1.kind = 0) ∧ s.length ≤ 1000 := by
  unfold numOk at h
  simp only [Bool.and_eq_true, decide_eq_true_eq, Bool.or_eq_true, beq_iff_eq] at h
  obtain ⟨⟨⟨⟨h1, h2⟩, h3⟩, h4⟩, h5⟩ := h
  refine ⟨h1, h2, h3, ?_, h5⟩
  rcases h4 with h4 | h4
  · exact .inl (fun e => by rw [e] at h4; cases h4)
  · exact .inr h4

set_option maxRecDepth 100000 in
set_option maxHeartbeats 16000000 in
theorem sn_walk (w : World) (hT : Tab w) : Calls Tryd.prog 3 #[] w fun e w' => e = .returned (.bool true) ∧ Ev w w' := by
  have hmix : Tryd.prog.follows .mixedOrders = true := by kernel_rfl
  have HT := Lib.hid hT
  have HM6 := Lib.hid make_601
  have HKn := Lib.hid (fun w1 => known7_any w1)
  clear hT
  go_enter Tryd.func3, Tryd.ntmps3
  go_wp2_with fail
  go_loop [1, 2] (fun s i => ∃ k : Nat, k ≤ 12 ∧ i = .int .i64 (k : Int) ∧ s = .string ⟨(List.replicate k (40 : UInt8)).toArray⟩) (fun _ i => 12 - (intOf i).toNat)
  case atStart => exact ⟨0, Nat.zero_le _, rfl, rfl⟩
  case round =>
    obtain ⟨k, hk, rfl, rfl⟩ := hrel
    by_cases hlt : k < 12
    · have hl : (List.replicate k (40 : UInt8)).length = k := List.length_replicate
      have hz := sx_size (List.replicate k (40 : UInt8))
      have hc := sx_cat (List.replicate k (40 : UInt8)) [40]
      rw [rep_snoc] at hc
      rw [hl] at hz
      have i1 : (k : Int) < 12 := by omega
      clear hl
      go_wp2
      go_round
      case rel => exact ⟨k + 1, by omega, by go_num, by first | rw [← hc, List.toArray_replicate] | rw [← hc]⟩
      case measure => simp [intOf]; omega
    · have hk12 : k = 12 := by omega
      have i1 : ¬ (k : Int) < 12 := by omega
      have HK12 := Lib.hid hk12
      clear hk12
      go_wp2_with fail
      rw [HK12.out]
      go_loop [3, 4] (fun s i => ∃ k : Nat, k ≤ 41 ∧ i = .int .i64 (k : Int) ∧ s = .string ⟨(34 :: List.replicate k (120 : UInt8)).toArray⟩) (fun _ i => 41 - (intOf i).toNat)
      case atStart => exact ⟨0, Nat.zero_le _, rfl, rfl⟩
      case round =>
        obtain ⟨k2, hk2, rfl, rfl⟩ := hrel
        by_cases hlt2 : k2 < 41
        · have hz := sx_size (34 :: List.replicate k2 (120 : UInt8))
          have hc := sx_cat (34 :: List.replicate k2 (120 : UInt8)) [120]
          rw [List.cons_append, rep_snoc] at hc
          rw [List.length_cons, List.length_replicate] at hz
          have i2 : (k2 : Int) < 41 := by omega
          go_wp2
          go_round
          case rel => exact ⟨k2 + 1, by omega, by go_num, by rw [← hc]⟩
          case measure => simp [intOf]; omega
        · have hk41 : k2 = 41 := by omega
          have i2 : ¬ (k2 : Int) < 41 := by omega
          have HK41 := Lib.hid hk41
          clear hk41
          go_wp2_with fail
          refine wp_world_eq (w' := w.alloc (.cells numCells 9)) (by rw [HK41.out]; kernel_rfl) ?_
          have HC := Lib.hid (fun k s (h : numTexts[k]? = some s) => num_cell (w := w) h)
          have HE0 := Lib.hid (Ev.alloc w (.cells numCells 9))
          have HLT := Lib.hid (show w.heap.size < (w.alloc (.cells numCells 9)).heap.size by simp)
          generalize w.alloc (.cells numCells 9) = wT at *
          generalize w.heap.size = gT at *
          go_loopw [43] (fun iv wr => ∃ k : Nat, k ≤ 45 ∧ iv = .int .i64 (k : Int) ∧ Ev wT wr) (fun iv _ => 45 - (intOf iv).toNat)
          case atStart => exact ⟨0, Nat.zero_le _, rfl, Ev.refl _⟩
          case round =>
            obtain ⟨k3, hk3, rfl, hE⟩ := hrel
            have HEW := Lib.hid (HE0.out.trans hE)
            have HTR := Lib.hid (HT.out.ev HEW.out)
            by_cases hlt3 : k3 < 45
            · obtain ⟨s, hs⟩ : ∃ s, numTexts[k3]? = some s := ⟨_, List.getElem?_eq_getElem (by have : numTexts.length = 45 := rfl; omega)⟩
              obtain ⟨hsame, hok⟩ := num_at hs
              obtain ⟨hlen, hfit, hsz, hne, hsl⟩ := num_facts hok
              have cc := (hE.cell (p := ⟨gT, k3, none⟩) HLT.out).trans (HC.out k3 s hs)
              have HR1 := fun w1 => sx_read ⟨s.toArray⟩ w1 (by rw [sx_size]; omega)
              have HR2 := fun w1 => rf_read ⟨s.toArray⟩ w1 (by rw [sx_size]; omega)
              rw [hsame] at HR2
              generalize sxRead s = Rs at *
              obtain ⟨Rt, Re, Rp⟩ := Rs
              unfold ReadOut at HR1 HR2
              simp only at HR1 HR2 hlen hfit hsz hne
              have HR1 := Lib.hid HR1
              have HR2 := Lib.hid HR2
              have HLEN := Lib.hid hlen
              have HFIT := Lib.hid hfit
              have HSZ := Lib.hid hsz
              have HNE := Lib.hid hne
              have i3 : (0 : Int) ≤ (k3 : Int) := by omega
              have i4 : (k3 : Int) < 45 := by omega
              clear hs hsame hok hlen hfit hsz hne hsl
              go_wp2_with (first
                | ((with_reducible refine (HR1.out _).mono ?_); rintro r w1 ⟨m, rfl, hmt, hml, hE1⟩; have HMT := Lib.hid hmt; have HML := Lib.hid hml; have B7 := Bx.new 25 #[.int .i64 m.kind, .string ⟨m.s.toArray⟩, .int .i64 m.n, .slice m.A m.kids.length m.cap, .int .i64 (m.pos : Int)] w1; have E7 := Lib.hid (hE1.trans (Ev.alloc w1 (.cells #[.int .i64 m.kind, .string ⟨m.s.toArray⟩, .int .i64 m.n, .slice m.A m.kids.length m.cap, .int .i64 (m.pos : Int)] 25))); have HML7 := Lib.hid (hml.ev (Ev.alloc w1 (.cells #[.int .i64 m.kind, .string ⟨m.s.toArray⟩, .int .i64 m.n, .slice m.A m.kids.length m.cap, .int .i64 (m.pos : Int)] 25))); clear hmt hml)
                | ((with_reducible refine (HR2.out _).mono ?_); rintro r w2 ⟨u, rfl, hut, hul, hE2⟩; have HUT := Lib.hid hut; have B10 := Bx.new 31 #[.int .i64 u.kind, .string ⟨u.s.toArray⟩, .int .i64 u.n, .slice u.A u.kids.length u.cap, .int .i64 (u.pos : Int)] w2; have E2 := hE2.trans (Ev.alloc w2 (.cells #[.int .i64 u.kind, .string ⟨u.s.toArray⟩, .int .i64 u.n, .slice u.A u.kids.length u.cap, .int .i64 (u.pos : Int)] 31)); replace B7 := B7.ev E2; have HUL := Lib.hid (hul.ev (Ev.alloc w2 (.cells #[.int .i64 u.kind, .string ⟨u.s.toArray⟩, .int .i64 u.n, .slice u.A u.kids.length u.cap, .int .i64 (u.pos : Int)] 31))); have HMLU := Lib.hid (HML7.out.ev E2); have E10 := Lib.hid (E7.out.trans E2); clear hut hul))
              generalize w1.heap.size = p7 at *
              generalize hW : w2.alloc (.cells #[.int .i64 u.kind, .string ⟨u.s.toArray⟩, .int .i64 u.n, .slice u.A u.kids.length u.cap, .int .i64 (u.pos : Int)] 31) = W at *
              generalize w2.heap.size = p10 at *
              clear hW
              obtain ⟨PS, hPS⟩ : ∃ PS : ByteArray, PS = ⟨(printS Rt).toArray⟩ := ⟨_, rfl⟩
              have HSA := Lib.hid (fun w' (hE' : Ev W w') => same_any HMLU.out w' _ [] u hE' (HUL.out.ev hE') (HMT.out.trans HUT.out.symm))
              have hpr := fun w' (hE' : Ev W w') => sx_printAny ((HTR.out.ev E10.out).ev hE') (HMLU.out.ev hE') (by rw [HMT.out]; exact HSZ.out) (by rw [HMT.out]; exact HLEN.out) (by rw [← M.t_kind, HMT.out]; exact HNE.out) (by rw [HMT.out]; exact HFIT.out)
              have hpf := fun w' (hE' : Ev W w') => rf_print HUL.out w' hE' (by rw [HUT.out]; exact HLEN.out) (by rw [HUT.out]; exact HFIT.out)
              rw [HMT.out, ← hPS] at hpr
              rw [HUT.out, ← hPS] at hpf
              have HPR := Lib.hid hpr
              have HPF := Lib.hid hpf
              clear hpr hpf hPS
              refine wp_region_slots hmix [fun v _ => v = .agg #[.int .i64 m.kind, .string ⟨m.s.toArray⟩, .int .i64 m.n, .slice m.A m.kids.length m.cap, .int .i64 (m.pos : Int)], fun v _ => v = .agg #[.int .i64 u.kind, .string ⟨u.s.toArray⟩, .int .i64 u.n, .slice u.A u.kids.length u.cap, .int .i64 (u.pos : Int)], fun v _ => v = .bool true, fun v _ => v = .bool false, fun v _ => v = .bool false, fun v _ => v = .int .i64 Re, fun v _ => v = .int .i64 Re, fun v _ => v = .bool false, fun v _ => v = .bool false, fun v _ => v = .bool false, fun v _ => v = .int .i64 (Rp : Int), fun v _ => v = .int .i64 (Rp : Int), fun v _ => v = .bool false, fun v _ => v = .bool false, fun v _ => v = .bool false, fun v _ => v = .agg #[.int .i64 m.kind, .string ⟨m.s.toArray⟩, .int .i64 m.n, .slice m.A m.kids.length m.cap, .int .i64 (m.pos : Int)], fun v _ => v = .string PS, fun v _ => v = .agg #[.int .i64 u.kind, .string ⟨u.s.toArray⟩, .int .i64 u.n, .slice u.A u.kids.length u.cap, .int .i64 (u.pos : Int)], fun v _ => v = .string PS, fun v _ => v = .bool false, fun v _ => v = .bool false]
                102 rfl (by kernel_rfl) ⟨mono_eq _, mono_eq _, mono_eq _, mono_eq _, mono_eq _, mono_eq _, mono_eq _, mono_eq _, mono_eq _, mono_eq _, mono_eq _, mono_eq _, mono_eq _, mono_eq _, mono_eq _, mono_eq _, mono_eq _, mono_eq _, mono_eq _, mono_eq _, mono_eq _, trivial⟩ ?_ ?_
              · refine ops_cons 0 ?_ (ops_cons 1 ?_ (ops_cons 2 ?_ (ops_cons 3 ?_ (ops_cons 4 ?_ (ops_cons 5 ?_ (ops_cons 6 ?_ (ops_cons 7 ?_ (ops_cons 8 ?_ (ops_cons 9 ?_ (ops_cons 10 ?_ (ops_cons 11 ?_ (ops_cons 12 ?_ (ops_cons 13 ?_ (ops_cons 14 ?_ (ops_cons 15 ?_ (ops_cons 16 ?_ (ops_cons 17 ?_ (ops_cons 18 ?_ (ops_cons 19 ?_ (ops_cons 20 ?_ (ops_nil 21)))))))))))))))))))))
                · refine op_value fun a w c => ⟨(wanted_plain rfl), _, run_load_box rfl ((c.was 7 (by kernel_rfl) rfl) : a.eval (.tmp 7) = .pointer (some ⟨p7, 0, none⟩)) (B7.ev c.ev) Tryd.underlying25 rfl Tryd.sizeTree, rfl⟩
                · refine op_value fun a w c => ⟨(wanted_plain rfl), _, run_load_box rfl ((c.was 10 (by kernel_rfl) rfl) : a.eval (.tmp 10) = .pointer (some ⟨p10, 0, none⟩)) (B10.ev c.ev) Tryd.underlying31 rfl Tryd.sizeRTree, rfl⟩
                · refine op_call fun a w c => ⟨(wanted_plain rfl), 7, #[.agg #[.int .i64 m.kind, .string ⟨m.s.toArray⟩, .int .i64 m.n, .slice m.A m.kids.length m.cap, .int .i64 (m.pos : Int)], .agg #[.int .i64 u.kind, .string ⟨u.s.toArray⟩, .int .i64 u.n, .slice u.A u.kids.length u.cap, .int .i64 (u.pos : Int)], .bool true], ?_, ?_⟩
                  · rw [run_call 7 _ _ rfl (by kernel_rfl)]
                    have e59 : a.eval (.tmp 59) = .agg #[.int .i64 m.kind, .string ⟨m.s.toArray⟩, .int .i64 m.n, .slice m.A m.kids.length m.cap, .int .i64 (m.pos : Int)] := (c.new 0 59 (by kernel_rfl) (by kernel_rfl))
                    have e60 : a.eval (.tmp 60) = .agg #[.int .i64 u.kind, .string ⟨u.s.toArray⟩, .int .i64 u.n, .slice u.A u.kids.length u.cap, .int .i64 (u.pos : Int)] := (c.new 1 60 (by kernel_rfl) (by kernel_rfl))
                    simp [e59, e60, evc]
                  · refine (HSA.out w c.ev).mono ?_
                    rintro e w2 ⟨rfl, hE⟩
                    exact ⟨_, rfl, hE, rfl⟩
                · refine op_value fun a w c => ⟨(wanted_plain rfl), .bool false, ?_, rfl⟩
                  have e61 : a.eval (.tmp 61) = .bool true := (c.new 2 61 (by kernel_rfl) (by kernel_rfl))
                  generalize a.eval = ρ at e61 ⊢
                  simp [execOp, e61, go_sem]
                · refine op_value fun a w c => ⟨(wanted_plain rfl), _, run_move _ rfl w, (c.new 3 62 (by kernel_rfl) (by kernel_rfl))⟩
                · refine op_value fun a w c => ⟨(wanted_yes rfl (by kernel_rfl) (c.new 4 63 (by kernel_rfl) (by kernel_rfl))), _, run_move _ rfl w, (c.was 8 (by kernel_rfl) rfl)⟩
                · refine op_value fun a w c => ⟨(wanted_yes rfl (by kernel_rfl) (c.new 4 63 (by kernel_rfl) (by kernel_rfl))), _, run_move _ rfl w, (c.was 11 (by kernel_rfl) rfl)⟩
                · refine op_value fun a w c => ⟨(wanted_yes rfl (by kernel_rfl) (c.new 4 63 (by kernel_rfl) (by kernel_rfl))), .bool false, ?_, rfl⟩
                  have e64 : a.eval (.tmp 64) = .int .i64 Re := (c.new 5 64 (by kernel_rfl) (by kernel_rfl))
                  have e65 : a.eval (.tmp 65) = .int .i64 Re := (c.new 6 65 (by kernel_rfl) (by kernel_rfl))
                  generalize a.eval = ρ at e64 e65 ⊢
                  simp [execOp, e64, e65, go_sem]
                · refine op_value fun a w c => ⟨(wanted_plain rfl), _, run_pick_false rfl (c.new 4 63 (by kernel_rfl) (by kernel_rfl)) w, (c.new 7 66 (by kernel_rfl) (by kernel_rfl))⟩
                · refine op_value fun a w c => ⟨(wanted_plain rfl), _, run_move _ rfl w, (c.new 8 67 (by kernel_rfl) (by kernel_rfl))⟩
                · refine op_value fun a w c => ⟨(wanted_yes rfl (by kernel_rfl) (c.new 9 68 (by kernel_rfl) (by kernel_rfl))), _, run_move _ rfl w, (c.was 9 (by kernel_rfl) rfl)⟩
                · refine op_value fun a w c => ⟨(wanted_yes rfl (by kernel_rfl) (c.new 9 68 (by kernel_rfl) (by kernel_rfl))), _, run_move _ rfl w, (c.was 12 (by kernel_rfl) rfl)⟩
                · refine op_value fun a w c => ⟨(wanted_yes rfl (by kernel_rfl) (c.new 9 68 (by kernel_rfl) (by kernel_rfl))), .bool false, ?_, rfl⟩
                  have e69 : a.eval (.tmp 69) = .int .i64 (Rp : Int) := (c.new 10 69 (by kernel_rfl) (by kernel_rfl))
                  have e70 : a.eval (.tmp 70) = .int .i64 (Rp : Int) := (c.new 11 70 (by kernel_rfl) (by kernel_rfl))
                  generalize a.eval = ρ at e69 e70 ⊢
                  simp [execOp, e69, e70, go_sem]
                · refine op_value fun a w c => ⟨(wanted_plain rfl), _, run_pick_false rfl (c.new 9 68 (by kernel_rfl) (by kernel_rfl)) w, (c.new 12 71 (by kernel_rfl) (by kernel_rfl))⟩
                · refine op_value fun a w c => ⟨(wanted_plain rfl), _, run_move _ rfl w, (c.new 13 72 (by kernel_rfl) (by kernel_rfl))⟩
                · refine op_value fun a w c => ⟨(wanted_yes rfl (by kernel_rfl) (c.new 14 73 (by kernel_rfl) (by kernel_rfl))), _, run_load_box rfl ((c.was 7 (by kernel_rfl) rfl) : a.eval (.tmp 7) = .pointer (some ⟨p7, 0, none⟩)) (B7.ev c.ev) Tryd.underlying25 rfl Tryd.sizeTree, rfl⟩
                · refine op_call fun a w c => ⟨(wanted_yes rfl (by kernel_rfl) (c.new 14 73 (by kernel_rfl) (by kernel_rfl))), 8, #[.agg #[.int .i64 m.kind, .string ⟨m.s.toArray⟩, .int .i64 m.n, .slice m.A m.kids.length m.cap, .int .i64 (m.pos : Int)]], ?_, ?_⟩
                  · rw [run_call 8 _ _ rfl (by kernel_rfl)]
                    have e74 : a.eval (.tmp 74) = .agg #[.int .i64 m.kind, .string ⟨m.s.toArray⟩, .int .i64 m.n, .slice m.A m.kids.length m.cap, .int .i64 (m.pos : Int)] := (c.new 15 74 (by kernel_rfl) (by kernel_rfl))
                    simp [e74]
                  · refine (HPR.out w c.ev).mono ?_
                    rintro e w2 ⟨rfl, hE⟩
                    exact ⟨_, rfl, hE, rfl⟩
                · refine op_value fun a w c => ⟨(wanted_yes rfl (by kernel_rfl) (c.new 14 73 (by kernel_rfl) (by kernel_rfl))), _, run_load_box rfl ((c.was 10 (by kernel_rfl) rfl) : a.eval (.tmp 10) = .pointer (some ⟨p10, 0, none⟩)) (B10.ev c.ev) Tryd.underlying31 rfl Tryd.sizeRTree, rfl⟩
                · refine op_call fun a w c => ⟨(wanted_yes rfl (by kernel_rfl) (c.new 14 73 (by kernel_rfl) (by kernel_rfl))), 9, #[.agg #[.int .i64 u.kind, .string ⟨u.s.toArray⟩, .int .i64 u.n, .slice u.A u.kids.length u.cap, .int .i64 (u.pos : Int)]], ?_, ?_⟩
                  · rw [run_call 9 _ _ rfl (by kernel_rfl)]
                    have e76 : a.eval (.tmp 76) = .agg #[.int .i64 u.kind, .string ⟨u.s.toArray⟩, .int .i64 u.n, .slice u.A u.kids.length u.cap, .int .i64 (u.pos : Int)] := (c.new 17 76 (by kernel_rfl) (by kernel_rfl))
                    simp [e76]
                  · refine (HPF.out w c.ev).mono ?_
                    rintro e w2 ⟨rfl, hE⟩
                    exact ⟨_, rfl, hE, rfl⟩
                · refine op_value fun a w c => ⟨(wanted_yes rfl (by kernel_rfl) (c.new 14 73 (by kernel_rfl) (by kernel_rfl))), .bool false, ?_, rfl⟩
                  have e75 : a.eval (.tmp 75) = .string PS := (c.new 16 75 (by kernel_rfl) (by kernel_rfl))
                  have e77 : a.eval (.tmp 77) = .string PS := (c.new 18 77 (by kernel_rfl) (by kernel_rfl))
                  generalize a.eval = ρ at e75 e77 ⊢
                  simp [execOp, e75, e77, go_sem]
                · refine op_value fun a w c => ⟨(wanted_plain rfl), _, run_pick_false rfl (c.new 14 73 (by kernel_rfl) (by kernel_rfl)) w, (c.new 19 78 (by kernel_rfl) (by kernel_rfl))⟩
              intro sl wq hEr hold hnew
              have f0 : sl 0 = u0 := hold 0 (by kernel_rfl)
              have f1 : sl 1 = .string ⟨Array.replicate 12 40⟩ := hold 1 (by kernel_rfl)
              have f2 : sl 2 = .int .i64 12 := hold 2 (by kernel_rfl)
              have f3 : sl 3 = .string ⟨(34 :: List.replicate k2 120).toArray⟩ := hold 3 (by kernel_rfl)
              have f4 : sl 4 = .int .i64 (k2 : Int) := hold 4 (by kernel_rfl)
              have f5 : sl 5 = undef := hold 5 (by kernel_rfl)
              have f6 : sl 6 = .string ⟨s.toArray⟩ := hold 6 (by kernel_rfl)
              have f7 : sl 7 = .pointer (some ⟨p7, 0, none⟩) := hold 7 (by kernel_rfl)
              have f8 : sl 8 = .int .i64 Re := hold 8 (by kernel_rfl)
              have f9 : sl 9 = .int .i64 (Rp : Int) := hold 9 (by kernel_rfl)
              have f10 : sl 10 = .pointer (some ⟨p10, 0, none⟩) := hold 10 (by kernel_rfl)
              have f11 : sl 11 = .int .i64 Re := hold 11 (by kernel_rfl)
              have f12 : sl 12 = .int .i64 (Rp : Int) := hold 12 (by kernel_rfl)
              have f13 : sl 13 = undef := hold 13 (by kernel_rfl)
              have f14 : sl 14 = undef := hold 14 (by kernel_rfl)
              have f15 : sl 15 = undef := hold 15 (by kernel_rfl)
              have f16 : sl 16 = .int .i64 12 := hold 16 (by kernel_rfl)
              have f17 : sl 17 = .bool false := hold 17 (by kernel_rfl)
              have f18 : sl 18 = u18 := hold 18 (by kernel_rfl)
              have f19 : sl 19 = u19 := hold 19 (by kernel_rfl)
              have f20 : sl 20 = u20 := hold 20 (by kernel_rfl)
              have f21 : sl 21 = u21 := hold 21 (by kernel_rfl)
              have f22 : sl 22 = .int .i64 (k2 : Int) := hold 22 (by kernel_rfl)
              have f23 : sl 23 = .bool false := hold 23 (by kernel_rfl)
              have f24 : sl 24 = u24 := hold 24 (by kernel_rfl)
              have f25 : sl 25 = u25 := hold 25 (by kernel_rfl)
              have f26 : sl 26 = u26 := hold 26 (by kernel_rfl)
              have f27 : sl 27 = u27 := hold 27 (by kernel_rfl)
              have f28 : sl 28 = .string ⟨(34 :: List.replicate k2 120).toArray⟩ := hold 28 (by kernel_rfl)
              have f29 : sl 29 = .string ⟨(34 :: List.replicate k2 120).toArray⟩ := hold 29 (by kernel_rfl)
              have f30 : sl 30 = .string (⟨(34 :: List.replicate k2 120).toArray⟩ ++ ⟨#[34]⟩) := hold 30 (by kernel_rfl)
              have f31 : sl 31 = .string ⟨(34 :: List.replicate k2 120).toArray⟩ := hold 31 (by kernel_rfl)
              have f32 : sl 32 = .string (ByteArray.extract ⟨(34 :: List.replicate k2 120).toArray⟩ 0 41) := hold 32 (by kernel_rfl)
              have f33 : sl 33 = .string (ByteArray.extract ⟨(34 :: List.replicate k2 120).toArray⟩ 0 41 ++ ⟨#[34]⟩) := hold 33 (by kernel_rfl)
              have f34 : sl 34 = .string ⟨(34 :: List.replicate k2 120).toArray⟩ := hold 34 (by kernel_rfl)
              have f35 : sl 35 = .string (⟨(34 :: List.replicate k2 120).toArray⟩ ++ ⟨#[10, 34]⟩) := hold 35 (by kernel_rfl)
              have f36 : sl 36 = .string ⟨Array.replicate 12 40⟩ := hold 36 (by kernel_rfl)
              have f37 : sl 37 = .string ⟨Array.replicate 12 40⟩ := hold 37 (by kernel_rfl)
              have f38 : sl 38 = .string (⟨Array.replicate 12 40⟩ ++ ⟨#[97]⟩) := hold 38 (by kernel_rfl)
              have f39 : sl 39 = .string ⟨Array.replicate 12 40⟩ := hold 39 (by kernel_rfl)
              have f40 : sl 40 = .string (⟨Array.replicate 12 40⟩ ++ ⟨#[40]⟩) := hold 40 (by kernel_rfl)
              have f41 : sl 41 = .slice (some ⟨gT, 0, none⟩) 45 45 := hold 41 (by kernel_rfl)
              have f42 : sl 42 = .int .i64 45 := hold 42 (by kernel_rfl)
              have f43 : sl 43 = .int .i64 (k3 : Int) := hold 43 (by kernel_rfl)
              have f44 : sl 44 = .bool true := hold 44 (by kernel_rfl)
              have f81 : sl 81 = undef := hold 81 (by kernel_rfl)
              have f82 : sl 82 = undef := hold 82 (by kernel_rfl)
              have f83 : sl 83 = undef := hold 83 (by kernel_rfl)
              have f84 : sl 84 = undef := hold 84 (by kernel_rfl)
              have f85 : sl 85 = undef := hold 85 (by kernel_rfl)
              have f86 : sl 86 = undef := hold 86 (by kernel_rfl)
              have f87 : sl 87 = undef := hold 87 (by kernel_rfl)
              have f88 : sl 88 = undef := hold 88 (by kernel_rfl)
              have f89 : sl 89 = undef := hold 89 (by kernel_rfl)
              have f90 : sl 90 = undef := hold 90 (by kernel_rfl)
              have f91 : sl 91 = undef := hold 91 (by kernel_rfl)
              have f92 : sl 92 = undef := hold 92 (by kernel_rfl)
              have f93 : sl 93 = undef := hold 93 (by kernel_rfl)
              have f94 : sl 94 = undef := hold 94 (by kernel_rfl)
              have f95 : sl 95 = undef := hold 95 (by kernel_rfl)
              have f96 : sl 96 = undef := hold 96 (by kernel_rfl)
              have f97 : sl 97 = undef := hold 97 (by kernel_rfl)
              have f98 : sl 98 = undef := hold 98 (by kernel_rfl)
              have f99 : sl 99 = undef := hold 99 (by kernel_rfl)
              have f100 : sl 100 = undef := hold 100 (by kernel_rfl)
              have f101 : sl 101 = undef := hold 101 (by kernel_rfl)
              have f59 : sl 59 = .agg #[.int .i64 m.kind, .string ⟨m.s.toArray⟩, .int .i64 m.n, .slice m.A m.kids.length m.cap, .int .i64 (m.pos : Int)] := hnew 0 59 (by kernel_rfl)
              have f60 : sl 60 = .agg #[.int .i64 u.kind, .string ⟨u.s.toArray⟩, .int .i64 u.n, .slice u.A u.kids.length u.cap, .int .i64 (u.pos : Int)] := hnew 1 60 (by kernel_rfl)
              have f61 : sl 61 = .bool true := hnew 2 61 (by kernel_rfl)
              have f62 : sl 62 = .bool false := hnew 3 62 (by kernel_rfl)
              have f63 : sl 63 = .bool false := hnew 4 63 (by kernel_rfl)
              have f64 : sl 64 = .int .i64 Re := hnew 5 64 (by kernel_rfl)
              have f65 : sl 65 = .int .i64 Re := hnew 6 65 (by kernel_rfl)
              have f66 : sl 66 = .bool false := hnew 7 66 (by kernel_rfl)
              have f67 : sl 67 = .bool false := hnew 8 67 (by kernel_rfl)
              have f68 : sl 68 = .bool false := hnew 9 68 (by kernel_rfl)
              have f69 : sl 69 = .int .i64 (Rp : Int) := hnew 10 69 (by kernel_rfl)
              have f70 : sl 70 = .int .i64 (Rp : Int) := hnew 11 70 (by kernel_rfl)
              have f71 : sl 71 = .bool false := hnew 12 71 (by kernel_rfl)
              have f72 : sl 72 = .bool false := hnew 13 72 (by kernel_rfl)
              have f73 : sl 73 = .bool false := hnew 14 73 (by kernel_rfl)
              have f74 : sl 74 = .agg #[.int .i64 m.kind, .string ⟨m.s.toArray⟩, .int .i64 m.n, .slice m.A m.kids.length m.cap, .int .i64 (m.pos : Int)] := hnew 15 74 (by kernel_rfl)
              have f75 : sl 75 = .string PS := hnew 16 75 (by kernel_rfl)
              have f76 : sl 76 = .agg #[.int .i64 u.kind, .string ⟨u.s.toArray⟩, .int .i64 u.n, .slice u.A u.kids.length u.cap, .int .i64 (u.pos : Int)] := hnew 17 76 (by kernel_rfl)
              have f77 : sl 77 = .string PS := hnew 18 77 (by kernel_rfl)
              have f78 : sl 78 = .bool false := hnew 19 78 (by kernel_rfl)
              have f79 : sl 79 = .bool false := hnew 20 79 (by kernel_rfl)
              change Exit.then _ _ .normal ⟨#[sl 0, sl 1, sl 2, sl 3, sl 4, sl 5, sl 6, sl 7, sl 8, sl 9, sl 10, sl 11, sl 12, sl 13, sl 14, sl 15, sl 16, sl 17, sl 18, sl 19, sl 20, sl 21, sl 22, sl 23, sl 24, sl 25, sl 26, sl 27, sl 28, sl 29, sl 30, sl 31, sl 32, sl 33, sl 34, sl 35, sl 36, sl 37, sl 38, sl 39, sl 40, sl 41, sl 42, sl 43, sl 44, sl 45, sl 46, sl 47, sl 48, sl 49, sl 50, sl 51, sl 52, sl 53, sl 54, sl 55, sl 56, sl 57, sl 58, sl 59, sl 60, sl 61, sl 62, sl 63, sl 64, sl 65, sl 66, sl 67, sl 68, sl 69, sl 70, sl 71, sl 72, sl 73, sl 74, sl 75, sl 76, sl 77, sl 78, sl 79, sl 80, sl 81, sl 82, sl 83, sl 84, sl 85, sl 86, sl 87, sl 88, sl 89, sl 90, sl 91, sl 92, sl 93, sl 94, sl 95, sl 96, sl 97, sl 98, sl 99, sl 100, sl 101], _⟩ _
              simp only [f0, f1, f2, f3, f4, f5, f6, f7, f8, f9, f10, f11, f12, f13, f14, f15, f16, f17, f18, f19, f20, f21, f22, f23, f24, f25, f26, f27, f28, f29, f30, f31, f32, f33, f34, f35, f36, f37, f38, f39, f40, f41, f42, f43, f44, f81, f82, f83, f84, f85, f86, f87, f88, f89, f90, f91, f92, f93, f94, f95, f96, f97, f98, f99, f100, f101, f59, f60, f61, f62, f63, f64, f65, f66, f67, f68, f69, f70, f71, f72, f73, f74, f75, f76, f77, f78, f79]
              clear hold hnew
              go_wp2
              go_roundw
              case rel => exact ⟨k3 + 1, by omega, by go_num, (hE.trans E10.out).trans hEr⟩
              case measure => simp [intOf]; omega
            · have i4 : ¬ ((k3 : Int) < 45) := by omega
              have hm6 := make_601
              have hcv := (bs_601 wr).str 37 9 5 Tryd.underlying37 Tryd.underlying5 Tryd.underlying9
              have hr6 := fun w1 => sx_read ⟨(List.replicate 601 (0 : UInt8)).toArray⟩ w1 (by rw [sx_size, List.length_replicate]; omega)
              simp only [read_601] at hr6
              unfold ReadOut at hr6
              have HR6 := Lib.hid hr6
              rw [List.toArray_replicate] at hr6 hcv
              have HR7 := Lib.hid hr6
              have HP0 : Hid (∀ w1, Calls Tryd.prog 8 #[.agg #[.int .i64 0, .string ⟨#[]⟩, .int .i64 0, .slice none 0 0, .int .i64 0]] w1 fun r w'' => r = .returned (.string ⟨#[]⟩) ∧ Ev w1 w'') := Lib.hid fun w1 => sx_print0 (m := mzero) (lies_zero w1) rfl (by decide +kernel)
              clear hr6
              go_wp2_with (first
                | ((with_reducible refine (HR6.out _).mono ?_); rintro r w1 ⟨m, rfl, hmt, hml, hE1⟩)
                | ((with_reducible refine (HR7.out _).mono ?_); rintro r w1 ⟨m, rfl, hmt, hml, hE1⟩)
                | ((with_reducible refine (HP0.out _).mono ?_); rintro r w3 ⟨rfl, hE3⟩)
                | ((with_reducible refine (HKn.out _).mono ?_); rintro r w4 ⟨rfl, hE4⟩))
              go_ret
              exact ⟨rfl, ((((HEW.out.trans (Ev.alloc _ _)).trans hE1).trans (Ev.alloc _ _)).trans hE3).trans hE4⟩
end Go.Proofs.YtiiogjpgeginlaaDoor
