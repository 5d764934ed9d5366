/-
  The contracts of package zset: Right, Total, Plain, Of, ofNet.
-/
import Derived.Test.YtcenjjoadhfhaaaZm
namespace Go.Proofs.Ytcenjjoadhfhaaa
open Go.RowKit
set_option linter.unusedVariables false

/-- A tally that a set keeps: known of all whose parts are whole numbers from 0 to 2^50. -/
def keptP (p q : Int) : Bool := partB p && partB q && keptB p q
def KeptAs (p q : Int) : Prop := ∀ w : World, Calls Try.prog 27 #[.complex .f64 (fl p) (fl q)] w fun e w' => e = .returned (.bool (keptP p q)) ∧ w = w'
theorem KeptAs.part {p q : Int} (hp : Part p) (hq : Part q) : KeptAs p q := fun w => by
  unfold keptP
  rw [partB_iff.2 hp, partB_iff.2 hq]
  exact zset_isKept p q hp hq w
def okItem (x : I) : Bool := rightR x.1 && keptP x.2.1 x.2.2
/-- A valid set, behind a row. -/
def setFrom : Option (List V) → List I → Bool
  | _, [] => true
  | none, x :: l => okItem x && setFrom (some x.1) l
  | some r, x :: l => okItem x && (lessR r x.1 && setFrom (some x.1) l)
def setB (l : List I) : Bool := setFrom none l
def KeptAll (Z : List J) : Prop := ∀ z ∈ Z, KeptAs z.2.2.1 z.2.2.2
/-- The row ahead of place k. -/
def rowAhead (Z : List J) (k : Nat) : Option (List V) := if k = 0 then none else (Z[k - 1]?).map keyJ
theorem setFrom_at {Z : List J} {k : Nat} {z : J} (hz : Z[k]? = some z) {prev : Option (List V)} : setFrom prev (itemsOf (Z.drop k)) = (okItem z.2 && ((match prev with | none => true | some r => lessR r z.2.1) && setFrom (some z.2.1) (itemsOf (Z.drop (k + 1))))) := by
  rw [drop_of_get hz]
  cases prev with
  | none => simp [itemsOf, setFrom]
  | some r => simp [itemsOf, setFrom]
theorem setFrom_end {Z : List J} {k : Nat} (hk : Z.length ≤ k) (prev : Option (List V)) : setFrom prev (itemsOf (Z.drop k)) = true := by
  rw [List.drop_of_length_le hk]
  cases prev <;> rfl

set_option maxRecDepth 100000 in
set_option maxHeartbeats 4000000 in
theorem zset_right {b0 : Nat} {A : Option Addr} {n cap : Nat} {Z : List J} (w : World) (h : Zs b0 w A n cap Z) (hk : KeptAll Z) :
    Calls Try.prog 11 #[.slice A n cap] w fun e w' => e = .returned (.bool (setB (itemsOf Z))) ∧ Ev w w' := by
  have hn := h.le
  have hm := h.max
  have HN := Lib.hid h.len
  have HK := Lib.hid hk
  have hmix : Try.prog.follows .mixedOrders = true := by kernel_rfl
  have hst := store_complex
  clear hk
  obtain ⟨sb, hsb⟩ : ∃ sb, setB (itemsOf Z) = sb := ⟨_, rfl⟩
  rw [hsb]
  have HSB := Lib.hid hsb
  clear hsb
  go_enter Try.func11, Try.ntmps11
  go_wp2
  go_loopw [7] (fun i wr => ∃ k : Nat, k ≤ n ∧ i = .int .i64 (k : Int) ∧ Hid (setFrom (rowAhead Z k) (itemsOf (Z.drop k)) = sb) ∧ Ev w wr) (fun i _ => n - (intOf i).toNat)
  case atStart => exact ⟨0, Nat.zero_le _, rfl, HSB, Ev.refl _⟩
  case round =>
    obtain ⟨k, hk, rfl, HT, hE⟩ := hrel
    by_cases hlt : k < n
    · obtain ⟨b, off, z, rfl, hb, hb0, hx, c0, c1, hv⟩ := (h.ev hE).at hlt
      have hka := HK.out z (List.mem_of_getElem? hx)
      have HX := Lib.hid hx
      have hstep := HT.out
      rw [setFrom_at hx] at hstep
      obtain ⟨⟨A1, n1, cap1⟩, r1, p1, q1⟩ := z
      simp only at hstep hv hka
      unfold jrow at c0
      unfold jtal at c1
      simp only at c0 c1
      obtain ⟨w0, hw0⟩ : ∃ w0, w0 = wr.alloc (.cells #[.slice A1 n1 cap1, .complex .f64 (fl p1) (fl q1)] 31) := ⟨_, rfl⟩
      have hE0 : Ev wr w0 := hw0 ▸ Ev.alloc _ _
      have B0 : Itembox wr.heap.size ((A1, n1, cap1), r1, p1, q1) w0 := hw0 ▸ Itembox.new ((A1, n1, cap1), r1, p1, q1) wr
      have d0 : w0.cell? ⟨wr.heap.size, 0, none⟩ = some (.slice A1 n1 cap1) := B0.c0
      have HR := Lib.hid (row_right w0 (hv.ev hE0))
      have HKA : Hid (∀ w : World, Calls Try.prog 27 #[.complex .f64 (fl p1) (fl q1)] w fun e w' => e = .returned (.bool (keptP p1 q1)) ∧ w = w') := Lib.hid hka
      have HV := Lib.hid hv
      clear hka hx hv
      unfold okItem at hstep
      simp only at hstep
      generalize rightR r1 = rr at *
      generalize keptP p1 q1 = kk at *
      have i1 : (0 : Int) ≤ (k : Int) := by omega
      have i2 : (k : Int) < (n : Int) := by omega
      cases rr
      · have HF : Hid (false = sb) := Lib.hid (by simpa using hstep)
        clear hstep
        go_wp2_with (first | (rw [← hw0]; (with_reducible refine HR.out.mono ?_); rintro e w1 ⟨rfl, hE1⟩))
        go_ret
        exact ⟨by rw [← HF.out]; rfl, (hE.trans (Ev.alloc _ _)).trans (hw0 ▸ hE1)⟩
      · cases kk
        · have HF : Hid (false = sb) := Lib.hid (by simpa using hstep)
          clear hstep
          go_wp2_with (first | (rw [← hw0]; (with_reducible refine HR.out.mono ?_); rintro e w1 ⟨rfl, hE1⟩; have d1 : w1.cell? ⟨wr.heap.size, 1, none⟩ = some (.complex .f64 (fl p1) (fl q1)) := (B0.ev hE1).c1) | ((with_reducible refine (HKA.out _).mono ?_); rintro e w2 ⟨rfl, rfl⟩))
          go_ret
          exact ⟨by rw [← HF.out]; rfl, (hE.trans hE0).trans hE1⟩
        · by_cases k0 : k = 0
          · have HS : Hid (setFrom (rowAhead Z (k + 1)) (itemsOf (Z.drop (k + 1))) = sb) := Lib.hid (by
              have e : rowAhead Z (k + 1) = some r1 := by unfold rowAhead; rw [if_neg (by omega), Nat.add_sub_cancel, HX.out]; rfl
              have e2 : rowAhead Z k = none := by unfold rowAhead; rw [if_pos k0]
              rw [e2] at hstep
              rw [e]
              simpa using hstep)
            have i6 : decide (0 < k) = false := decide_eq_false (by omega)
            clear hstep k0
            go_wp2_with (first | (rw [← hw0]; (with_reducible refine HR.out.mono ?_); rintro e w1 ⟨rfl, hE1⟩; have d1 : w1.cell? ⟨wr.heap.size, 1, none⟩ = some (.complex .f64 (fl p1) (fl q1)) := (B0.ev hE1).c1) | ((with_reducible refine (HKA.out _).mono ?_); rintro e w2 ⟨rfl, rfl⟩))
            go_quiet (fail)
            go_wp2
            go_roundw
            case rel => exact ⟨k + 1, by omega, by go_num, HS, ((hE.trans hE0).trans hE1).trans (Ev.drewN _ _)⟩
            case measure => simp [intOf]; omega
          · have i6 : 0 < k := by omega
            obtain ⟨j, hj⟩ : ∃ j, k = j + 1 := ⟨k - 1, by omega⟩
            obtain ⟨b', off', z0, hA', _, _, hx0, c0p, _, hv0⟩ := (h.ev hE).at (i := j) (by omega)
            obtain ⟨rfl, rfl⟩ : b = b' ∧ off = off' := by injection hA' with e; injection e with e1 e2; exact ⟨e1, e2⟩
            have e2 : rowAhead Z k = some z0.2.1 := by unfold rowAhead; rw [if_neg (by omega), show k - 1 = j by omega, hx0]; rfl
            rw [e2] at hstep
            have HL := fun w1 (h1 : Ev wr w1) => row_less w1 (hv0.ev h1) (HV.out.ev h1)
            obtain ⟨⟨A0, n0, cap0⟩, r0, p0, q0⟩ := z0
            simp only at hstep HL
            unfold jrow at c0p
            simp only at c0p
            have i3 : IntKind.i64.wrap ((k : Int) - 1) = (j : Int) := by rw [show (k : Int) - 1 = (j : Int) by omega]; exact IntWalk.i64_in _ (by omega)
            have i4 : (0 : Int) ≤ (j : Int) := by omega
            have i5 : (j : Int) < (n : Int) := by omega
            clear hx0 hv0 hA' e2
            generalize lessR r0 r1 = ls at *
            cases ls
            · have HF : Hid (false = sb) := Lib.hid (by simpa using hstep)
              clear hstep hj
              go_wp2_with (first | (rw [← hw0]; (with_reducible refine HR.out.mono ?_); rintro e w1 ⟨rfl, hE1⟩; have d1 : w1.cell? ⟨wr.heap.size, 1, none⟩ = some (.complex .f64 (fl p1) (fl q1)) := (B0.ev hE1).c1) | ((with_reducible refine (HKA.out _).mono ?_); rintro e w2 ⟨rfl, rfl⟩))
              have cg : w1.cell? ⟨wr.heap.size, 0, none⟩ = some (.slice A1 n1 cap1) := (B0.ev hE1).c0
              have hg1 := (B0.ev hE1).lt
              have hE01 := hE0.trans hE1
              replace c0p := (hE01.cell (p := ⟨b, off + j * 2, none⟩) hb).trans c0p
              have hb1 : b < w1.heap.size := Nat.lt_of_lt_of_le hb hE01.size
              replace HL := Lib.hid (fun w3 (h3 : Ev w1 w3) => HL w3 (hE01.trans h3))
              obtain ⟨g, hg⟩ : ∃ g, g = wr.heap.size := ⟨_, rfl⟩
              rw [← hg] at cg hg1 ⊢
              clear d0 d1 hg
              refine wp_region_slots hmix [fun v _ => v = .int .i64 (k : Int), fun v _ => v = .bool true, fun v _ => v = .bool true, fun v _ => v = .slice (some ⟨b, off, none⟩) n cap, fun v _ => v = .int .i64 (k : Int), fun v _ => v = .int .i64 (j : Int), fun v _ => v = .pointer (some ⟨b, off + j * 2, none⟩), fun v _ => v = .pointer (some ⟨b, off + j * 2, none⟩), fun v _ => v = .slice A0 n0 cap0, fun v _ => v = .pointer (some ⟨g, 0, none⟩), fun v _ => v = .slice A1 n1 cap1, fun v _ => v = .bool false, fun v _ => v = .bool true, fun v _ => v = .bool true]
                37 rfl (by kernel_rfl) ⟨mono_eq _, mono_eq _, mono_eq _, mono_eq _, mono_eq _, mono_eq _, mono_eq _, mono_eq _, mono_eq _, mono_eq _, mono_eq _, mono_eq _, mono_eq _, mono_eq _, trivial⟩ ?_ ?_
              · refine ops_cons 0 ?_ (ops_cons 1 ?_ (ops_cons 2 ?_ (ops_cons 3 ?_ (ops_cons 4 ?_ (ops_cons 5 ?_ (ops_cons 6 ?_ (ops_cons 7 ?_ (ops_cons 8 ?_ (ops_cons 9 ?_ (ops_cons 10 ?_ (ops_cons 11 ?_ (ops_cons 12 ?_ (ops_cons 13 ?_ (ops_nil 14))))))))))))))
                · refine op_value fun a w c => ⟨(wanted_plain rfl), _, run_move _ rfl w, (c.was 3 (by kernel_rfl) rfl)⟩
                · refine op_value fun a w c => ⟨(wanted_plain rfl), .bool true, ?_, rfl⟩
                  have e22 : a.eval (.tmp 22) = .int .i64 (k : Int) := (c.new 0 22 (by kernel_rfl) (by kernel_rfl))
                  have kc0 : a.eval (.const (.int .i64 0)) = .int .i64 0 := rfl
                  generalize a.eval = ρ at e22 kc0 ⊢
                  simp [execOp, e22, kc0, go_sem, i6]
                · refine op_value fun a w c => ⟨(wanted_plain rfl), _, run_move _ rfl w, (c.new 1 23 (by kernel_rfl) (by kernel_rfl))⟩
                · refine op_value fun a w c => ⟨(wanted_yes rfl (by kernel_rfl) (c.new 2 24 (by kernel_rfl) (by kernel_rfl))), _, run_move _ rfl w, (c.was 0 (by kernel_rfl) rfl)⟩
                · refine op_value fun a w c => ⟨(wanted_yes rfl (by kernel_rfl) (c.new 2 24 (by kernel_rfl) (by kernel_rfl))), _, run_move _ rfl w, (c.was 3 (by kernel_rfl) rfl)⟩
                · refine op_value fun a w c => ⟨(wanted_yes rfl (by kernel_rfl) (c.new 2 24 (by kernel_rfl) (by kernel_rfl))), .int .i64 (j : Int), ?_, rfl⟩
                  have e26 : a.eval (.tmp 26) = .int .i64 (k : Int) := (c.new 4 26 (by kernel_rfl) (by kernel_rfl))
                  have kc0 : a.eval (.const (.int .i64 1)) = .int .i64 1 := rfl
                  generalize a.eval = ρ at e26 kc0 ⊢
                  simp [execOp, e26, kc0, go_sem, i3]
                · refine op_value fun a w c => ⟨(wanted_yes rfl (by kernel_rfl) (c.new 2 24 (by kernel_rfl) (by kernel_rfl))), .pointer (some ⟨b, off + j * 2, none⟩), ?_, rfl⟩
                  have e25 : a.eval (.tmp 25) = .slice (some ⟨b, off, none⟩) n cap := (c.new 3 25 (by kernel_rfl) (by kernel_rfl))
                  have e27 : a.eval (.tmp 27) = .int .i64 (j : Int) := (c.new 5 27 (by kernel_rfl) (by kernel_rfl))
                  generalize a.eval = ρ at e25 e27 ⊢
                  simp [execOp, e25, e27, go_sem, i4, i5]
                · refine op_value fun a w c => ⟨(wanted_yes rfl (by kernel_rfl) (c.new 2 24 (by kernel_rfl) (by kernel_rfl))), .pointer (some ⟨b, off + j * 2, none⟩), ?_, rfl⟩
                  have e28 : a.eval (.tmp 28) = .pointer (some ⟨b, off + j * 2, none⟩) := (c.new 6 28 (by kernel_rfl) (by kernel_rfl))
                  generalize a.eval = ρ at e28 ⊢
                  simp [execOp, e28, go_sem]
                · refine op_value fun a w c => ⟨(wanted_yes rfl (by kernel_rfl) (c.new 2 24 (by kernel_rfl) (by kernel_rfl))), .slice A0 n0 cap0, ?_, rfl⟩
                  have e29 : a.eval (.tmp 29) = .pointer (some ⟨b, off + j * 2, none⟩) := (c.new 7 29 (by kernel_rfl) (by kernel_rfl))
                  have hc := (c.ev.cell (p := ⟨b, off + j * 2, none⟩) hb1).trans c0p
                  generalize a.eval = ρ at e29 ⊢
                  simp [execOp, e29, hc, go_sem]
                · refine op_value fun a w c => ⟨(wanted_yes rfl (by kernel_rfl) (c.new 2 24 (by kernel_rfl) (by kernel_rfl))), .pointer (some ⟨g, 0, none⟩), ?_, rfl⟩
                  have e4 : a.eval (.tmp 4) = .pointer (some ⟨g, 0, none⟩) := (c.was 4 (by kernel_rfl) rfl)
                  generalize a.eval = ρ at e4 ⊢
                  simp [execOp, e4, go_sem]
                · refine op_value fun a w c => ⟨(wanted_yes rfl (by kernel_rfl) (c.new 2 24 (by kernel_rfl) (by kernel_rfl))), .slice A1 n1 cap1, ?_, rfl⟩
                  have e31 : a.eval (.tmp 31) = .pointer (some ⟨g, 0, none⟩) := (c.new 9 31 (by kernel_rfl) (by kernel_rfl))
                  have hc := (c.ev.cell (p := ⟨g, 0, none⟩) hg1).trans cg
                  generalize a.eval = ρ at e31 ⊢
                  simp [execOp, e31, hc, go_sem]
                · refine op_call fun a w c => ⟨(wanted_yes rfl (by kernel_rfl) (c.new 2 24 (by kernel_rfl) (by kernel_rfl))), 28, #[.slice A0 n0 cap0, .slice A1 n1 cap1], ?_, ?_⟩
                  · rw [run_call 28 _ _ rfl (by kernel_rfl)]
                    have e30 : a.eval (.tmp 30) = .slice A0 n0 cap0 := (c.new 8 30 (by kernel_rfl) (by kernel_rfl))
                    have e32 : a.eval (.tmp 32) = .slice A1 n1 cap1 := (c.new 10 32 (by kernel_rfl) (by kernel_rfl))
                    simp [e30, e32]
                  · refine (HL.out w c.ev).mono ?_
                    rintro e w2 ⟨rfl, hE⟩
                    exact ⟨_, rfl, hE, rfl⟩
                · refine op_value fun a w c => ⟨(wanted_yes rfl (by kernel_rfl) (c.new 2 24 (by kernel_rfl) (by kernel_rfl))), .bool true, ?_, rfl⟩
                  have e33 : a.eval (.tmp 33) = .bool false := (c.new 11 33 (by kernel_rfl) (by kernel_rfl))
                  generalize a.eval = ρ at e33 ⊢
                  simp [execOp, e33, go_sem]
                · refine op_value fun a w c => ⟨(wanted_plain rfl), _, run_pick_true rfl (c.new 2 24 (by kernel_rfl) (by kernel_rfl)) w, (c.new 12 34 (by kernel_rfl) (by kernel_rfl))⟩
              intro s w4 hEr hold hnew
              have f0 : s 0 = .slice (some ⟨b, off, none⟩) n cap := hold 0 (by kernel_rfl)
              have f1 : s 1 = undef := hold 1 (by kernel_rfl)
              have f2 : s 2 = u2 := hold 2 (by kernel_rfl)
              have f3 : s 3 = .int .i64 (k : Int) := hold 3 (by kernel_rfl)
              have f4 : s 4 = .pointer (some ⟨g, 0, none⟩) := hold 4 (by kernel_rfl)
              have f5 : s 5 = .slice (some ⟨b, off, none⟩) n cap := hold 5 (by kernel_rfl)
              have f6 : s 6 = .int .i64 (n : Int) := hold 6 (by kernel_rfl)
              have f7 : s 7 = .int .i64 (k : Int) := hold 7 (by kernel_rfl)
              have f22 : s 22 = .int .i64 (k : Int) := hnew 0 22 (by kernel_rfl)
              have f23 : s 23 = .bool true := hnew 1 23 (by kernel_rfl)
              have f24 : s 24 = .bool true := hnew 2 24 (by kernel_rfl)
              have f25 : s 25 = .slice (some ⟨b, off, none⟩) n cap := hnew 3 25 (by kernel_rfl)
              have f26 : s 26 = .int .i64 (k : Int) := hnew 4 26 (by kernel_rfl)
              have f27 : s 27 = .int .i64 (j : Int) := hnew 5 27 (by kernel_rfl)
              have f28 : s 28 = .pointer (some ⟨b, off + j * 2, none⟩) := hnew 6 28 (by kernel_rfl)
              have f29 : s 29 = .pointer (some ⟨b, off + j * 2, none⟩) := hnew 7 29 (by kernel_rfl)
              have f30 : s 30 = .slice A0 n0 cap0 := hnew 8 30 (by kernel_rfl)
              have f31 : s 31 = .pointer (some ⟨g, 0, none⟩) := hnew 9 31 (by kernel_rfl)
              have f32 : s 32 = .slice A1 n1 cap1 := hnew 10 32 (by kernel_rfl)
              have f33 : s 33 = .bool false := hnew 11 33 (by kernel_rfl)
              have f34 : s 34 = .bool true := hnew 12 34 (by kernel_rfl)
              have f35 : s 35 = .bool true := hnew 13 35 (by kernel_rfl)
              change Exit.then _ _ .normal ⟨#[s 0, s 1, s 2, s 3, s 4, s 5, s 6, s 7, s 8, s 9, s 10, s 11, s 12, s 13, s 14, s 15, s 16, s 17, s 18, s 19, s 20, s 21, s 22, s 23, s 24, s 25, s 26, s 27, s 28, s 29, s 30, s 31, s 32, s 33, s 34, s 35, s 36], _⟩ _
              simp only [f0, f1, f2, f3, f4, f5, f6, f7, f22, f23, f24, f25, f26, f27, f28, f29, f30, f31, f32, f33, f34, f35]
              clear hold hnew
              go_wp2
              go_ret
              exact ⟨by rw [← HF.out]; rfl, ((hE.trans hE0).trans hE1).trans hEr⟩
            · have HS : Hid (setFrom (rowAhead Z (k + 1)) (itemsOf (Z.drop (k + 1))) = sb) := Lib.hid (by
                have e : rowAhead Z (k + 1) = some r1 := by unfold rowAhead; rw [if_neg (by omega), Nat.add_sub_cancel, HX.out]; rfl
                rw [e]
                simpa using hstep)
              clear hstep hj
              go_wp2_with (first | (rw [← hw0]; (with_reducible refine HR.out.mono ?_); rintro e w1 ⟨rfl, hE1⟩; have d1 : w1.cell? ⟨wr.heap.size, 1, none⟩ = some (.complex .f64 (fl p1) (fl q1)) := (B0.ev hE1).c1) | ((with_reducible refine (HKA.out _).mono ?_); rintro e w2 ⟨rfl, rfl⟩))
              have cg : w1.cell? ⟨wr.heap.size, 0, none⟩ = some (.slice A1 n1 cap1) := (B0.ev hE1).c0
              have hg1 := (B0.ev hE1).lt
              have hE01 := hE0.trans hE1
              replace c0p := (hE01.cell (p := ⟨b, off + j * 2, none⟩) hb).trans c0p
              have hb1 : b < w1.heap.size := Nat.lt_of_lt_of_le hb hE01.size
              replace HL := Lib.hid (fun w3 (h3 : Ev w1 w3) => HL w3 (hE01.trans h3))
              obtain ⟨g, hg⟩ : ∃ g, g = wr.heap.size := ⟨_, rfl⟩
              rw [← hg] at cg hg1 ⊢
              clear d0 d1 hg
              refine wp_region_slots hmix [fun v _ => v = .int .i64 (k : Int), fun v _ => v = .bool true, fun v _ => v = .bool true, fun v _ => v = .slice (some ⟨b, off, none⟩) n cap, fun v _ => v = .int .i64 (k : Int), fun v _ => v = .int .i64 (j : Int), fun v _ => v = .pointer (some ⟨b, off + j * 2, none⟩), fun v _ => v = .pointer (some ⟨b, off + j * 2, none⟩), fun v _ => v = .slice A0 n0 cap0, fun v _ => v = .pointer (some ⟨g, 0, none⟩), fun v _ => v = .slice A1 n1 cap1, fun v _ => v = .bool true, fun v _ => v = .bool false, fun v _ => v = .bool false]
                37 rfl (by kernel_rfl) ⟨mono_eq _, mono_eq _, mono_eq _, mono_eq _, mono_eq _, mono_eq _, mono_eq _, mono_eq _, mono_eq _, mono_eq _, mono_eq _, mono_eq _, mono_eq _, mono_eq _, trivial⟩ ?_ ?_
              · refine ops_cons 0 ?_ (ops_cons 1 ?_ (ops_cons 2 ?_ (ops_cons 3 ?_ (ops_cons 4 ?_ (ops_cons 5 ?_ (ops_cons 6 ?_ (ops_cons 7 ?_ (ops_cons 8 ?_ (ops_cons 9 ?_ (ops_cons 10 ?_ (ops_cons 11 ?_ (ops_cons 12 ?_ (ops_cons 13 ?_ (ops_nil 14))))))))))))))
                · refine op_value fun a w c => ⟨(wanted_plain rfl), _, run_move _ rfl w, (c.was 3 (by kernel_rfl) rfl)⟩
                · refine op_value fun a w c => ⟨(wanted_plain rfl), .bool true, ?_, rfl⟩
                  have e22 : a.eval (.tmp 22) = .int .i64 (k : Int) := (c.new 0 22 (by kernel_rfl) (by kernel_rfl))
                  have kc0 : a.eval (.const (.int .i64 0)) = .int .i64 0 := rfl
                  generalize a.eval = ρ at e22 kc0 ⊢
                  simp [execOp, e22, kc0, go_sem, i6]
                · refine op_value fun a w c => ⟨(wanted_plain rfl), _, run_move _ rfl w, (c.new 1 23 (by kernel_rfl) (by kernel_rfl))⟩
                · refine op_value fun a w c => ⟨(wanted_yes rfl (by kernel_rfl) (c.new 2 24 (by kernel_rfl) (by kernel_rfl))), _, run_move _ rfl w, (c.was 0 (by kernel_rfl) rfl)⟩
                · refine op_value fun a w c => ⟨(wanted_yes rfl (by kernel_rfl) (c.new 2 24 (by kernel_rfl) (by kernel_rfl))), _, run_move _ rfl w, (c.was 3 (by kernel_rfl) rfl)⟩
                · refine op_value fun a w c => ⟨(wanted_yes rfl (by kernel_rfl) (c.new 2 24 (by kernel_rfl) (by kernel_rfl))), .int .i64 (j : Int), ?_, rfl⟩
                  have e26 : a.eval (.tmp 26) = .int .i64 (k : Int) := (c.new 4 26 (by kernel_rfl) (by kernel_rfl))
                  have kc0 : a.eval (.const (.int .i64 1)) = .int .i64 1 := rfl
                  generalize a.eval = ρ at e26 kc0 ⊢
                  simp [execOp, e26, kc0, go_sem, i3]
                · refine op_value fun a w c => ⟨(wanted_yes rfl (by kernel_rfl) (c.new 2 24 (by kernel_rfl) (by kernel_rfl))), .pointer (some ⟨b, off + j * 2, none⟩), ?_, rfl⟩
                  have e25 : a.eval (.tmp 25) = .slice (some ⟨b, off, none⟩) n cap := (c.new 3 25 (by kernel_rfl) (by kernel_rfl))
                  have e27 : a.eval (.tmp 27) = .int .i64 (j : Int) := (c.new 5 27 (by kernel_rfl) (by kernel_rfl))
                  generalize a.eval = ρ at e25 e27 ⊢
                  simp [execOp, e25, e27, go_sem, i4, i5]
                · refine op_value fun a w c => ⟨(wanted_yes rfl (by kernel_rfl) (c.new 2 24 (by kernel_rfl) (by kernel_rfl))), .pointer (some ⟨b, off + j * 2, none⟩), ?_, rfl⟩
                  have e28 : a.eval (.tmp 28) = .pointer (some ⟨b, off + j * 2, none⟩) := (c.new 6 28 (by kernel_rfl) (by kernel_rfl))
                  generalize a.eval = ρ at e28 ⊢
                  simp [execOp, e28, go_sem]
                · refine op_value fun a w c => ⟨(wanted_yes rfl (by kernel_rfl) (c.new 2 24 (by kernel_rfl) (by kernel_rfl))), .slice A0 n0 cap0, ?_, rfl⟩
                  have e29 : a.eval (.tmp 29) = .pointer (some ⟨b, off + j * 2, none⟩) := (c.new 7 29 (by kernel_rfl) (by kernel_rfl))
                  have hc := (c.ev.cell (p := ⟨b, off + j * 2, none⟩) hb1).trans c0p
                  generalize a.eval = ρ at e29 ⊢
                  simp [execOp, e29, hc, go_sem]
                · refine op_value fun a w c => ⟨(wanted_yes rfl (by kernel_rfl) (c.new 2 24 (by kernel_rfl) (by kernel_rfl))), .pointer (some ⟨g, 0, none⟩), ?_, rfl⟩
                  have e4 : a.eval (.tmp 4) = .pointer (some ⟨g, 0, none⟩) := (c.was 4 (by kernel_rfl) rfl)
                  generalize a.eval = ρ at e4 ⊢
                  simp [execOp, e4, go_sem]
                · refine op_value fun a w c => ⟨(wanted_yes rfl (by kernel_rfl) (c.new 2 24 (by kernel_rfl) (by kernel_rfl))), .slice A1 n1 cap1, ?_, rfl⟩
                  have e31 : a.eval (.tmp 31) = .pointer (some ⟨g, 0, none⟩) := (c.new 9 31 (by kernel_rfl) (by kernel_rfl))
                  have hc := (c.ev.cell (p := ⟨g, 0, none⟩) hg1).trans cg
                  generalize a.eval = ρ at e31 ⊢
                  simp [execOp, e31, hc, go_sem]
                · refine op_call fun a w c => ⟨(wanted_yes rfl (by kernel_rfl) (c.new 2 24 (by kernel_rfl) (by kernel_rfl))), 28, #[.slice A0 n0 cap0, .slice A1 n1 cap1], ?_, ?_⟩
                  · rw [run_call 28 _ _ rfl (by kernel_rfl)]
                    have e30 : a.eval (.tmp 30) = .slice A0 n0 cap0 := (c.new 8 30 (by kernel_rfl) (by kernel_rfl))
                    have e32 : a.eval (.tmp 32) = .slice A1 n1 cap1 := (c.new 10 32 (by kernel_rfl) (by kernel_rfl))
                    simp [e30, e32]
                  · refine (HL.out w c.ev).mono ?_
                    rintro e w2 ⟨rfl, hE⟩
                    exact ⟨_, rfl, hE, rfl⟩
                · refine op_value fun a w c => ⟨(wanted_yes rfl (by kernel_rfl) (c.new 2 24 (by kernel_rfl) (by kernel_rfl))), .bool false, ?_, rfl⟩
                  have e33 : a.eval (.tmp 33) = .bool true := (c.new 11 33 (by kernel_rfl) (by kernel_rfl))
                  generalize a.eval = ρ at e33 ⊢
                  simp [execOp, e33, go_sem]
                · refine op_value fun a w c => ⟨(wanted_plain rfl), _, run_pick_true rfl (c.new 2 24 (by kernel_rfl) (by kernel_rfl)) w, (c.new 12 34 (by kernel_rfl) (by kernel_rfl))⟩
              intro s w4 hEr hold hnew
              have f0 : s 0 = .slice (some ⟨b, off, none⟩) n cap := hold 0 (by kernel_rfl)
              have f1 : s 1 = undef := hold 1 (by kernel_rfl)
              have f2 : s 2 = u2 := hold 2 (by kernel_rfl)
              have f3 : s 3 = .int .i64 (k : Int) := hold 3 (by kernel_rfl)
              have f4 : s 4 = .pointer (some ⟨g, 0, none⟩) := hold 4 (by kernel_rfl)
              have f5 : s 5 = .slice (some ⟨b, off, none⟩) n cap := hold 5 (by kernel_rfl)
              have f6 : s 6 = .int .i64 (n : Int) := hold 6 (by kernel_rfl)
              have f7 : s 7 = .int .i64 (k : Int) := hold 7 (by kernel_rfl)
              have f22 : s 22 = .int .i64 (k : Int) := hnew 0 22 (by kernel_rfl)
              have f23 : s 23 = .bool true := hnew 1 23 (by kernel_rfl)
              have f24 : s 24 = .bool true := hnew 2 24 (by kernel_rfl)
              have f25 : s 25 = .slice (some ⟨b, off, none⟩) n cap := hnew 3 25 (by kernel_rfl)
              have f26 : s 26 = .int .i64 (k : Int) := hnew 4 26 (by kernel_rfl)
              have f27 : s 27 = .int .i64 (j : Int) := hnew 5 27 (by kernel_rfl)
              have f28 : s 28 = .pointer (some ⟨b, off + j * 2, none⟩) := hnew 6 28 (by kernel_rfl)
              have f29 : s 29 = .pointer (some ⟨b, off + j * 2, none⟩) := hnew 7 29 (by kernel_rfl)
              have f30 : s 30 = .slice A0 n0 cap0 := hnew 8 30 (by kernel_rfl)
              have f31 : s 31 = .pointer (some ⟨g, 0, none⟩) := hnew 9 31 (by kernel_rfl)
              have f32 : s 32 = .slice A1 n1 cap1 := hnew 10 32 (by kernel_rfl)
              have f33 : s 33 = .bool true := hnew 11 33 (by kernel_rfl)
              have f34 : s 34 = .bool false := hnew 12 34 (by kernel_rfl)
              have f35 : s 35 = .bool false := hnew 13 35 (by kernel_rfl)
              change Exit.then _ _ .normal ⟨#[s 0, s 1, s 2, s 3, s 4, s 5, s 6, s 7, s 8, s 9, s 10, s 11, s 12, s 13, s 14, s 15, s 16, s 17, s 18, s 19, s 20, s 21, s 22, s 23, s 24, s 25, s 26, s 27, s 28, s 29, s 30, s 31, s 32, s 33, s 34, s 35, s 36], _⟩ _
              simp only [f0, f1, f2, f3, f4, f5, f6, f7, f22, f23, f24, f25, f26, f27, f28, f29, f30, f31, f32, f33, f34, f35]
              clear hold hnew
              generalize s 8 = u8
              generalize s 9 = u9
              generalize s 10 = u10
              generalize s 11 = u11
              generalize s 12 = u12
              generalize s 13 = u13
              generalize s 14 = u14
              generalize s 15 = u15
              generalize s 16 = u16
              generalize s 17 = u17
              generalize s 18 = u18
              generalize s 19 = u19
              generalize s 20 = u20
              generalize s 21 = u21
              generalize s 36 = u36
              go_wp2
              go_roundw
              case rel => exact ⟨k + 1, by omega, by go_num, HS, ((hE.trans hE0).trans hE1).trans hEr⟩
              case measure => simp [intOf]; omega
    · obtain rfl : k = n := by omega
      have HF : Hid (true = sb) := Lib.hid (by rw [← HT.out, setFrom_end (by rw [HN.out]; exact Nat.le_refl _)])
      go_wp2
      go_ret
      exact ⟨by rw [← HF.out]; rfl, hE⟩
end Go.Proofs.Ytcenjjoadhfhaaa
