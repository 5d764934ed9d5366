/-
  The walk of ValueOrder.
-/
import Derived.Test.YtdakcljjmbhbgaaDoorOrd
import Derived.Test.YtdakcljjmbhbgaaDoorRegion
namespace Go.Proofs.YtdakcljjmbhbgaaDoor
open Go.RowKit
set_option linter.unusedVariables false

theorem Boxed.three (k n : Int) (s : ByteArray) (k' n' : Int) (s' : ByteArray) (k2 n2 : Int) (s2 : ByteArray) (w : World) : ∃ w0, w0 = ((w.alloc (.cells #[.int .i64 k, .int .i64 n, .string s] 26)).alloc (.cells #[.int .i64 k', .int .i64 n', .string s'] 26)).alloc (.cells #[.int .i64 k2, .int .i64 n2, .string s2] 26) ∧
    Boxed w.heap.size k n s w0 ∧ Boxed (w.heap.size + 1) k' n' s' w0 ∧ Boxed (w.heap.size + 1 + 1) k2 n2 s2 w0 ∧ Ev w w0 := by
  obtain ⟨w1, rfl, h0, h1, hE⟩ := Boxed.two k n s k' n' s' w
  refine ⟨_, rfl, h0.ev (Ev.alloc _ _), h1.ev (Ev.alloc _ _), ?_, hE.trans (Ev.alloc _ _)⟩
  have := Boxed.new k2 n2 s2 ((w.alloc (.cells #[.int .i64 k, .int .i64 n, .string s] 26)).alloc (.cells #[.int .i64 k', .int .i64 n', .string s'] 26))
  simpa using this
/-- A Writer that is written in new memory turns nothing that was there. -/
theorem Wrote.fresh {w w1 w2 : World} {v' : Value} (h : Ev w w1) {p : Nat} (hp : w.heap.size ≤ p) (k : Wrote p (.slice none 0 0) w1 v' w2) : Ev w w2 :=
  (((But.of_ev (K := []) h).trans k.but (fun x hx => .inr (by simp [foot, Value.ownBlock] at hx; omega))).ev (by simp))
theorem new_writer2 (w : World) : Calls Tryd.prog 17 #[] w fun e w' => e = .returned (.pointer (some ⟨w.heap.size, 0, none⟩)) ∧ Wr w.heap.size (.slice none 0 0) [] w' ∧ Ev w w' :=
  (new_writer w).mono fun e w' ⟨he, hw⟩ => ⟨he, by subst hw; exact Wr.new w, by subst hw; exact Ev.alloc _ _⟩

set_option maxRecDepth 100000 in
set_option maxHeartbeats 8000000 in
theorem vo_walk (k0 n0 : Int) (s0 : ByteArray) (k1 n1 : Int) (s1 : ByteArray) (k2 n2 : Int) (s2 : ByteArray) (w : World) (hT : Tab w) (hn0 : -9223372036854775808 ≤ n0 ∧ n0 ≤ 9223372036854775807) (hn1 : -9223372036854775808 ≤ n1 ∧ n1 ≤ 9223372036854775807) :
    Calls Tryd.prog 5 #[vv k0 n0 s0, vv k1 n1 s1, vv k2 n2 s2] w fun e w' => e = .returned (.bool true) ∧ Ev w w' := by
  obtain ⟨w0, hw0, B0, B0b, B0c, hE0⟩ := Boxed.three k0 n0 s0 k1 n1 s1 k2 n2 s2 w
  have HR0 := fun w => value_right k0 n0 s0 w
  have HR1 := fun w => value_right k1 n1 s1 w
  have HR2 := fun w => value_right k2 n2 s2 w
  have HK := Lib.hid (fun w (h : Tab w) => known_any w h)
  cases hr0 : rightV k0 n0 s0
  · rw [hr0] at HR0
    have HR0 := Lib.hid HR0
    clear hr0
    go_enter Tryd.func5, Tryd.ntmps5
    go_wp2_with (first | (rw [← hw0]; (with_reducible refine (HR0.out w0).mono ?_); rintro y w1 ⟨rfl, hE1⟩) | ((with_reducible refine (HK.out w1 ((hT.ev hE0).ev hE1)).mono ?_); rintro y w2 ⟨rfl, hE2⟩))
    go_ret
    exact ⟨rfl, (hE0.trans hE1).trans hE2⟩
  · cases hr1 : rightV k1 n1 s1
    · rw [hr0] at HR0
      rw [hr1] at HR1
      have HR0 := Lib.hid HR0
      have HR1 := Lib.hid HR1
      clear hr0 hr1
      go_enter Tryd.func5, Tryd.ntmps5
      go_wp2_with (first | (rw [← hw0]; (with_reducible refine (HR0.out w0).mono ?_); rintro y w1 ⟨rfl, hE1⟩; have B1b := B0b.ev hE1; have d0 := B1b.c0; have d1 := B1b.c1; have d2 := B1b.c2) | ((with_reducible refine (HR1.out w1).mono ?_); rintro y w2 ⟨rfl, hE2⟩; have E2 := (hE0.trans hE1).trans hE2) | ((with_reducible refine (HK.out w2 (hT.ev E2)).mono ?_); rintro y w3 ⟨rfl, hE3⟩))
      go_ret
      exact ⟨rfl, E2.trans hE3⟩
    · cases hr2 : rightV k2 n2 s2
      · rw [hr0] at HR0
        rw [hr1] at HR1
        rw [hr2] at HR2
        have HR0 := Lib.hid HR0
        have HR1 := Lib.hid HR1
        have HR2 := Lib.hid HR2
        clear hr0 hr1 hr2
        go_enter Tryd.func5, Tryd.ntmps5
        go_wp2_with (first | (rw [← hw0]; (with_reducible refine (HR0.out w0).mono ?_); rintro y w1 ⟨rfl, hE1⟩; have B1b := B0b.ev hE1; have d0 := B1b.c0; have d1 := B1b.c1; have d2 := B1b.c2) | ((with_reducible refine (HR1.out w1).mono ?_); rintro y w2 ⟨rfl, hE2⟩; have E2 := (hE0.trans hE1).trans hE2; have B2c := (B0c.ev hE1).ev hE2; have e0 := B2c.c0; have e1 := B2c.c1; have e2 := B2c.c2) | ((with_reducible refine (HR2.out w2).mono ?_); rintro y w3 ⟨rfl, hE3⟩; have E3 := E2.trans hE3) | ((with_reducible refine (HK.out w3 (hT.ev E3)).mono ?_); rintro y w4 ⟨rfl, hE4⟩))
        go_ret
        exact ⟨rfl, E3.trans hE4⟩
      · obtain ⟨x, hx⟩ : ∃ x, lessV k0 n0 s0 k1 n1 s1 = x := ⟨_, rfl⟩
        obtain ⟨y, hy⟩ : ∃ y, lessV k1 n1 s1 k0 n0 s0 = y := ⟨_, rfl⟩
        obtain ⟨sm, hsm⟩ : ∃ b, sameV k0 n0 s0 k1 n1 s1 = b := ⟨_, rfl⟩
        obtain ⟨nsm, hnsm⟩ : ∃ b, (!sm) = b := ⟨_, rfl⟩
        have hxy : (x != y) = nsm := by rw [← hx, ← hy, less_tri hr0 hr1, hsm, hnsm]
        have hnm : (!sameV k0 n0 s0 k1 n1 s1) = nsm := by rw [hsm, hnsm]
        have hxe : (x == y) = !nsm := by rw [← hxy]; cases x <;> cases y <;> rfl
        obtain ⟨t0, ht0⟩ : ∃ t : ByteArray, (⟨(showV k0 n0 s0).toArray⟩ : ByteArray) = t := ⟨_, rfl⟩
        obtain ⟨t1, ht1⟩ : ∃ t : ByteArray, (⟨(showV k1 n1 s1).toArray⟩ : ByteArray) = t := ⟨_, rfl⟩
        have hsh : (t0.toList == t1.toList) = sm := by
          rw [← ht0, ← ht1, ByteArray.toList_mk, ByteArray.toList_mk, ← hsm, Bool.eq_iff_iff, beq_iff_eq, sameV_iff]
          constructor
          · intro e
            exact show_inj hr0 hr1 (by simpa using e)
          · rintro ⟨rfl, rfl, rfl⟩
            rfl
        have hvb := val_back hr0 hn0.1 hn0.2
        obtain ⟨b, hb⟩ : ∃ b, lessV k1 n1 s1 k2 n2 s2 = b := ⟨_, rfl⟩
        have hc : x = true → b = true → lessV k0 n0 s0 k2 n2 s2 = true := fun a c => less_trans (hx.trans a) (hb.trans c)
        have hsz := right_size hr0
        have hpl := putV_length k0 n0 s0
        rw [hr0] at HR0
        rw [hr1] at HR1
        rw [hr2] at HR2
        have HR0 := Lib.hid HR0
        have HR1 := Lib.hid HR1
        have HR2 := Lib.hid HR2
        obtain ⟨L, hL⟩ : ∃ L, putV k0 n0 s0 = L := ⟨_, rfl⟩
        have HP := fun p w (h : Wr p (.slice none 0 0) [] w) => value_put p (.slice none 0 0) [] k0 n0 s0 w h (by simp; omega)
        rw [hL] at HP hvb hpl
        simp only [List.nil_append] at HP
        have HP := Lib.hid HP
        have HD := Lib.hid (fun p v w (h : Wr p v L w) => writer_done p v L w h (by omega))
        have HN := Lib.hid (fun A cap w (h : Bs w A L.length cap L) => new_reader A L.length cap L w h (by omega))
        have HG := fun p A cap w (h : Rd p A L.length cap L 0 0 w) => value_get w h
        rw [hvb] at HG
        have HG := Lib.hid HG
        have HEnd := fun p A cap w (h : Rd p A L.length cap L 0 L.length w) => reader_end w h
        rw [show rdEnd L 0 L.length = (0, 0) by simp [rdEnd]] at HEnd
        have HEnd := Lib.hid HEnd
        have HNW := Lib.hid (fun w => new_writer2 w)
        have hss : (⟨s0.data.toList.toArray⟩ : ByteArray) = s0 := by rw [Array.toArray_toList]
        simp only [hss] at HG
        have HX := Lib.hid hx; have HY := Lib.hid hy; have HSM := Lib.hid hsm; have HNSM := Lib.hid hnsm; have HXY := Lib.hid hxy; have HNM := Lib.hid hnm; have HXE := Lib.hid hxe; have HT0 := Lib.hid ht0; have HT1 := Lib.hid ht1; have HSH := Lib.hid hsh; have HB := Lib.hid hb; have HC := Lib.hid hc
        clear hx hy hsm hnsm hxy hnm hxe ht0 ht1 hsh hb hc hvb hsz hpl hL hss hr0 hr1 hr2
        have hmix : Tryd.prog.follows .mixedOrders = true := by kernel_rfl
        go_enter Tryd.func5, Tryd.ntmps5
        go_wp2_with (first | (rw [← hw0]; (with_reducible refine (HR0.out w0).mono ?_); rintro y w1 ⟨rfl, hE1⟩; have B1b := B0b.ev hE1; have d0 := B1b.c0; have d1 := B1b.c1; have d2 := B1b.c2) | ((with_reducible refine (HR1.out w1).mono ?_); rintro y w2 ⟨rfl, hE2⟩; have E2 := (hE0.trans hE1).trans hE2; have B2c := (B0c.ev hE1).ev hE2; have e0 := B2c.c0; have e1 := B2c.c1; have e2 := B2c.c2) | ((with_reducible refine (HR2.out w2).mono ?_); rintro y w3 ⟨rfl, hE3⟩; have E3 := E2.trans hE3; have B3 := ((B0.ev hE1).ev hE2).ev hE3; have B3b := ((B0b.ev hE1).ev hE2).ev hE3; have B3c := B2c.ev hE3) | ((with_reducible refine (HNW.out w3).mono ?_); rintro y w4 ⟨rfl, hW4, hE4⟩; have B4 := B3.ev hE4; have c0 := B4.c0; have c1 := B4.c1; have c2 := B4.c2) | ((with_reducible refine (HP.out _ w4 hW4).mono ?_); rintro y w5 ⟨rfl, v5, hW5, hT5⟩; have E5 : Ev w3 w5 := Wrote.fresh hE4 (Nat.le_refl _) hT5) | ((with_reducible refine (HD.out _ _ w5 hW5).mono ?_); rintro y w6 ⟨A6, cap6, rfl, hB6, _, hE6⟩; have E6 := E5.trans hE6) | ((with_reducible refine (HN.out _ _ w6 hB6).mono ?_); rintro y w7 ⟨p7, A7, cap7, rfl, hR7, hp7, _, hE7⟩; have E7 := E6.trans hE7; have hp3 : w3.heap.size ≤ p7 := Nat.le_trans E6.size hp7) | ((with_reducible refine (HG.out _ _ _ w7 hR7).mono ?_); rintro y w8 ⟨rfl, hR8, hB8⟩; have E8 : Ev w3 w8 := (((But.of_ev (K := []) E7).trans hB8 (fun x hx => .inr (by simp at hx; omega))).ev (by simp)); have BX := Boxed.new k0 n0 s0 w8; have hR8b := hR8.ev (Ev.alloc w8 (.cells #[.int .i64 k0, .int .i64 n0, .string s0] 26))) | ((with_reducible refine (HEnd.out _ _ _ _ hR8b).mono ?_); rintro y w9 ⟨rfl, hq⟩; have hE9 := Ev.of_drewN hq; have F9 := (E8.trans (Ev.alloc _ _)).trans hE9; have E9 := E3.trans F9; have BX9 := BX.ev hE9; have B9 := B3.ev F9; have B9b := B3b.ev F9; have B9c := B3c.ev F9; have hT9 := hT.ev E9; clear hq hB8 hT5))
        have hx := HX.out; have hy := HY.out; have hsm := HSM.out; have hxe := HXE.out
        generalize w8.heap.size = g at *
        generalize w.heap.size = H at *
        refine wp_region_slots hmix [fun v _ => v = vv k0 n0 s0, fun v _ => v = vv k1 n1 s1, fun v _ => v = .bool x, fun v _ => v = vv k1 n1 s1, fun v _ => v = vv k0 n0 s0, fun v _ => v = .bool y, fun v _ => v = .bool nsm, fun v _ => v = .bool nsm]
          97 rfl (by kernel_rfl) ⟨mono_eq _, mono_eq _, mono_eq _, mono_eq _, mono_eq _, mono_eq _, mono_eq _, mono_eq _, trivial⟩ ?_ ?_
        · refine ops_cons 0 ?_ (ops_cons 1 ?_ (ops_cons 2 ?_ (ops_cons 3 ?_ (ops_cons 4 ?_ (ops_cons 5 ?_ (ops_cons 6 ?_ (ops_cons 7 ?_ (ops_nil 8))))))))
          · refine op_value fun a w c => ⟨(wanted_plain rfl), _, run_load_val rfl ((c.was 3 (by kernel_rfl) rfl) : a.eval (.tmp 3) = .pointer (some ⟨H, 0, none⟩)) (B9.ev c.ev), rfl⟩
          · refine op_value fun a w c => ⟨(wanted_plain rfl), _, run_load_val rfl ((c.was 4 (by kernel_rfl) rfl) : a.eval (.tmp 4) = .pointer (some ⟨H + 1, 0, none⟩)) (B9b.ev c.ev), rfl⟩
          · refine op_call fun a w c => ⟨(wanted_plain rfl), 15, #[vv k0 n0 s0, vv k1 n1 s1], ?_, ?_⟩
            · rw [run_call 15 _ _ rfl (by kernel_rfl)]
              have e45 : a.eval (.tmp 45) = vv k0 n0 s0 := (c.new 0 45 (by kernel_rfl) (by kernel_rfl))
              have e46 : a.eval (.tmp 46) = vv k1 n1 s1 := (c.new 1 46 (by kernel_rfl) (by kernel_rfl))
              simp [e45, e46]
            · refine (value_less _ _ _ _ _ _ w).mono ?_
              rintro e w2 ⟨rfl, hE⟩
              exact ⟨_, rfl, hE, congrArg Value.bool hx⟩
          · refine op_value fun a w c => ⟨(wanted_plain rfl), _, run_load_val rfl ((c.was 4 (by kernel_rfl) rfl) : a.eval (.tmp 4) = .pointer (some ⟨H + 1, 0, none⟩)) (B9b.ev c.ev), rfl⟩
          · refine op_value fun a w c => ⟨(wanted_plain rfl), _, run_load_val rfl ((c.was 3 (by kernel_rfl) rfl) : a.eval (.tmp 3) = .pointer (some ⟨H, 0, none⟩)) (B9.ev c.ev), rfl⟩
          · refine op_call fun a w c => ⟨(wanted_plain rfl), 15, #[vv k1 n1 s1, vv k0 n0 s0], ?_, ?_⟩
            · rw [run_call 15 _ _ rfl (by kernel_rfl)]
              have e48 : a.eval (.tmp 48) = vv k1 n1 s1 := (c.new 3 48 (by kernel_rfl) (by kernel_rfl))
              have e49 : a.eval (.tmp 49) = vv k0 n0 s0 := (c.new 4 49 (by kernel_rfl) (by kernel_rfl))
              simp [e48, e49]
            · refine (value_less _ _ _ _ _ _ w).mono ?_
              rintro e w2 ⟨rfl, hE⟩
              exact ⟨_, rfl, hE, congrArg Value.bool hy⟩
          · refine op_value fun a w c => ⟨(wanted_plain rfl), .bool nsm, ?_, rfl⟩
            have e1 : a.eval (.tmp 47) = .bool x := (c.new 2 47 (by kernel_rfl) (by kernel_rfl))
            have e2 : a.eval (.tmp 50) = .bool y := (c.new 5 50 (by kernel_rfl) (by kernel_rfl))
            generalize a.eval = ρ at e1 e2 ⊢
            simp [execOp, e1, e2, go_sem, hxe]
          · refine op_value fun a w c => ⟨(wanted_plain rfl), _, run_assign _ rfl w, (c.new 6 51 (by kernel_rfl) (by kernel_rfl))⟩
        · intro s w10 hEr hold hnew
          have f3 : s 3 = .pointer (some ⟨H, 0, none⟩) := hold 3 (by kernel_rfl)
          have f4 : s 4 = .pointer (some ⟨H + 1, 0, none⟩) := hold 4 (by kernel_rfl)
          have f5 : s 5 = .pointer (some ⟨H + 1 + 1, 0, none⟩) := hold 5 (by kernel_rfl)
          have f9 : s 9 = .pointer (some ⟨g, 0, none⟩) := hold 9 (by kernel_rfl)
          have f10 : s 10 = .int .i64 0 := hold 10 (by kernel_rfl)
          have f11 : s 11 = .int .i64 0 := hold 11 (by kernel_rfl)
          have f12 : s 12 = .bool nsm := hnew 7 12 (by kernel_rfl)
          have f45 : s 45 = vv k0 n0 s0 := hnew 0 45 (by kernel_rfl)
          have f46 : s 46 = vv k1 n1 s1 := hnew 1 46 (by kernel_rfl)
          have f47 : s 47 = .bool x := hnew 2 47 (by kernel_rfl)
          have f48 : s 48 = vv k1 n1 s1 := hnew 3 48 (by kernel_rfl)
          have f49 : s 49 = vv k0 n0 s0 := hnew 4 49 (by kernel_rfl)
          have f50 : s 50 = .bool y := hnew 5 50 (by kernel_rfl)
          have f51 : s 51 = .bool nsm := hnew 6 51 (by kernel_rfl)
          change Exit.then _ _ .normal ⟨#[s 0, s 1, s 2, s 3, s 4, s 5, s 6, s 7, s 8, s 9, s 10, s 11, s 12, s 13, s 14, s 15, s 16, s 17, s 18, s 19, s 20, s 21, s 22, s 23, s 24, s 25, s 26, s 27, s 28, s 29, s 30, s 31, s 32, s 33, s 34, s 35, s 36, s 37, s 38, s 39, s 40, s 41, s 42, s 43, s 44, s 45, s 46, s 47, s 48, s 49, s 50, s 51, s 52, s 53, s 54, s 55, s 56, s 57, s 58, s 59, s 60, s 61, s 62, s 63, s 64, s 65, s 66, s 67, s 68, s 69, s 70, s 71, s 72, s 73, s 74, s 75, s 76, s 77, s 78, s 79, s 80, s 81, s 82, s 83, s 84, s 85, s 86, s 87, s 88, s 89, s 90, s 91, s 92, s 93, s 94, s 95, s 96], _⟩ _
          simp only [f3, f4, f5, f9, f10, f11, f12, f45, f46, f47, f48, f49, f50, f51]
          clear hold hnew
          have B10 := B9.ev hEr
          have B10b := B9b.ev hEr
          have B10c := B9c.ev hEr
          have BX10 := BX9.ev hEr
          have hT10 := hT9.ev hEr
          have hsh := HSH.out
          have hnm := HNM.out
          have hsm := HSM.out
          have ht0 := HT0.out
          have ht1 := HT1.out
          have hb := HB.out
          have hc := HC.out
          generalize s 0 = u0
          generalize s 1 = u1
          generalize s 2 = u2
          generalize s 6 = u6
          generalize s 7 = u7
          generalize s 8 = u8
          generalize s 13 = u13
          generalize s 14 = u14
          generalize s 15 = u15
          generalize s 16 = u16
          generalize s 17 = u17
          generalize s 18 = u18
          generalize s 19 = u19
          generalize s 20 = u20
          generalize s 21 = u21
          generalize s 22 = u22
          generalize s 23 = u23
          generalize s 24 = u24
          generalize s 25 = u25
          generalize s 26 = u26
          generalize s 27 = u27
          generalize s 28 = u28
          generalize s 29 = u29
          generalize s 30 = u30
          generalize s 31 = u31
          generalize s 32 = u32
          generalize s 33 = u33
          generalize s 34 = u34
          generalize s 35 = u35
          generalize s 36 = u36
          generalize s 37 = u37
          generalize s 38 = u38
          generalize s 39 = u39
          generalize s 40 = u40
          generalize s 41 = u41
          generalize s 42 = u42
          generalize s 43 = u43
          generalize s 44 = u44
          generalize s 52 = u52
          generalize s 53 = u53
          generalize s 54 = u54
          generalize s 55 = u55
          generalize s 56 = u56
          generalize s 57 = u57
          generalize s 58 = u58
          generalize s 59 = u59
          generalize s 60 = u60
          generalize s 61 = u61
          generalize s 62 = u62
          generalize s 63 = u63
          generalize s 64 = u64
          generalize s 65 = u65
          generalize s 66 = u66
          generalize s 67 = u67
          generalize s 68 = u68
          generalize s 69 = u69
          generalize s 70 = u70
          generalize s 71 = u71
          generalize s 72 = u72
          generalize s 73 = u73
          generalize s 74 = u74
          generalize s 75 = u75
          generalize s 76 = u76
          generalize s 77 = u77
          generalize s 78 = u78
          generalize s 79 = u79
          generalize s 80 = u80
          generalize s 81 = u81
          generalize s 82 = u82
          generalize s 83 = u83
          generalize s 84 = u84
          generalize s 85 = u85
          generalize s 86 = u86
          generalize s 87 = u87
          generalize s 88 = u88
          generalize s 89 = u89
          generalize s 90 = u90
          generalize s 91 = u91
          generalize s 92 = u92
          generalize s 93 = u93
          generalize s 94 = u94
          generalize s 95 = u95
          generalize s 96 = u96
          go_wp2_with fail
          cases x
          · have hnn := HNSM.out
            refine wp_region_slots hmix [fun v _ => v = .bool nsm, fun v _ => v = vv k0 n0 s0, fun v _ => v = vv k1 n1 s1, fun v _ => v = .bool nsm, fun v _ => v = .bool true, fun v _ => v = .bool true, fun v _ => v = vv k0 n0 s0, fun v _ => v = vv k1 n1 s1, fun v _ => v = .bool false, fun v _ => v = .bool true, fun v _ => v = .bool true, fun _ _ => True, fun _ _ => True, fun _ _ => True, fun _ _ => True, fun v _ => v = .bool true, fun v _ => v = .bool true, fun _ _ => True, fun _ _ => True, fun _ _ => True, fun v _ => v = .bool true, fun v _ => v = .bool true, fun v _ => v = .bool true, fun v _ => v = vv k0 n0 s0, fun v _ => v = .string t0, fun v _ => v = vv k1 n1 s1, fun v _ => v = .string t1, fun v _ => v = .bool sm, fun v _ => v = vv k0 n0 s0, fun v _ => v = vv k1 n1 s1, fun v _ => v = .bool sm, fun v _ => v = .bool true, fun v _ => v = .bool true, fun v _ => v = .bool true, fun v _ => v = vv k0 n0 s0, fun v _ => v = vv k0 n0 s0, fun v _ => v = .bool true, fun v _ => v = .bool true, fun v _ => v = .bool true, fun v _ => v = .int .i64 0, fun v _ => v = .bool true, fun v _ => v = .bool true, fun v _ => v = .bool true, fun v _ => v = .bool true, fun v _ => v = .bool true, fun v _ => v = .bool true]
              97 rfl (by kernel_rfl) ⟨mono_eq _, mono_eq _, mono_eq _, mono_eq _, mono_eq _, mono_eq _, mono_eq _, mono_eq _, mono_eq _, mono_eq _, mono_eq _, mono_true, mono_true, mono_true, mono_true, mono_eq _, mono_eq _, mono_true, mono_true, mono_true, mono_eq _, mono_eq _, mono_eq _, mono_eq _, mono_eq _, mono_eq _, mono_eq _, mono_eq _, mono_eq _, mono_eq _, mono_eq _, mono_eq _, mono_eq _, mono_eq _, mono_eq _, mono_eq _, mono_eq _, mono_eq _, mono_eq _, mono_eq _, mono_eq _, mono_eq _, mono_eq _, mono_eq _, mono_eq _, mono_eq _, trivial⟩ ?_ ?_
            · refine ops_cons 0 ?_ (ops_cons 1 ?_ (ops_cons 2 ?_ (ops_cons 3 ?_ (ops_cons 4 ?_ (ops_cons 5 ?_ (ops_cons 6 ?_ (ops_cons 7 ?_ (ops_cons 8 ?_ (ops_cons 9 ?_ (ops_cons 10 ?_ (ops_cons 11 ?_ (ops_cons 12 ?_ (ops_cons 13 ?_ (ops_cons 14 ?_ (ops_cons 15 ?_ (ops_cons 16 ?_ (ops_cons 17 ?_ (ops_cons 18 ?_ (ops_cons 19 ?_ (ops_cons 20 ?_ (ops_cons 21 ?_ (ops_cons 22 ?_ (ops_cons 23 ?_ (ops_cons 24 ?_ (ops_cons 25 ?_ (ops_cons 26 ?_ (ops_cons 27 ?_ (ops_cons 28 ?_ (ops_cons 29 ?_ (ops_cons 30 ?_ (ops_cons 31 ?_ (ops_cons 32 ?_ (ops_cons 33 ?_ (ops_cons 34 ?_ (ops_cons 35 ?_ (ops_cons 36 ?_ (ops_cons 37 ?_ (ops_cons 38 ?_ (ops_cons 39 ?_ (ops_cons 40 ?_ (ops_cons 41 ?_ (ops_cons 42 ?_ (ops_cons 43 ?_ (ops_cons 44 ?_ (ops_cons 45 ?_ (ops_nil 46))))))))))))))))))))))))))))))))))))))))))))))
              · refine op_value fun a w c => ⟨(wanted_plain rfl), _, run_move _ rfl w, (c.was 12 (by kernel_rfl) rfl)⟩
              · refine op_value fun a w c => ⟨(wanted_plain rfl), _, run_load_val rfl ((c.was 3 (by kernel_rfl) rfl) : a.eval (.tmp 3) = .pointer (some ⟨H, 0, none⟩)) (B10.ev c.ev), rfl⟩
              · refine op_value fun a w c => ⟨(wanted_plain rfl), _, run_load_val rfl ((c.was 4 (by kernel_rfl) rfl) : a.eval (.tmp 4) = .pointer (some ⟨H + 1, 0, none⟩)) (B10b.ev c.ev), rfl⟩
              · refine op_value fun a w c => ⟨(wanted_plain rfl), _, op_neq_val rfl ((c.new 1 53 (by kernel_rfl) (by kernel_rfl)) : a.eval (.tmp 53) = vv k0 n0 s0) ((c.new 2 54 (by kernel_rfl) (by kernel_rfl)) : a.eval (.tmp 54) = vv k1 n1 s1), congrArg Value.bool hnm⟩
              · refine op_value fun a w c => ⟨(wanted_plain rfl), .bool true, ?_, rfl⟩
                have e52 : a.eval (.tmp 52) = .bool nsm := (c.new 0 52 (by kernel_rfl) (by kernel_rfl))
                have e55 : a.eval (.tmp 55) = .bool nsm := (c.new 3 55 (by kernel_rfl) (by kernel_rfl))
                generalize a.eval = ρ at e52 e55 ⊢
                simp [execOp, e52, e55, go_sem]
              · refine op_value fun a w c => ⟨(wanted_plain rfl), _, run_move _ rfl w, (c.new 4 56 (by kernel_rfl) (by kernel_rfl))⟩
              · refine op_value fun a w c => ⟨(wanted_yes rfl (by kernel_rfl) (c.new 5 57 (by kernel_rfl) (by kernel_rfl))), _, run_load_val rfl ((c.was 3 (by kernel_rfl) rfl) : a.eval (.tmp 3) = .pointer (some ⟨H, 0, none⟩)) (B10.ev c.ev), rfl⟩
              · refine op_value fun a w c => ⟨(wanted_yes rfl (by kernel_rfl) (c.new 5 57 (by kernel_rfl) (by kernel_rfl))), _, run_load_val rfl ((c.was 4 (by kernel_rfl) rfl) : a.eval (.tmp 4) = .pointer (some ⟨H + 1, 0, none⟩)) (B10b.ev c.ev), rfl⟩
              · refine op_call fun a w c => ⟨(wanted_yes rfl (by kernel_rfl) (c.new 5 57 (by kernel_rfl) (by kernel_rfl))), 15, #[vv k0 n0 s0, vv k1 n1 s1], ?_, ?_⟩
                · rw [run_call 15 _ _ rfl (by kernel_rfl)]
                  have e58 : a.eval (.tmp 58) = vv k0 n0 s0 := (c.new 6 58 (by kernel_rfl) (by kernel_rfl))
                  have e59 : a.eval (.tmp 59) = vv k1 n1 s1 := (c.new 7 59 (by kernel_rfl) (by kernel_rfl))
                  simp [e58, e59]
                · refine (value_less _ _ _ _ _ _ w).mono ?_
                  rintro e w2 ⟨rfl, hE⟩
                  exact ⟨_, rfl, hE, congrArg Value.bool hx⟩
              · refine op_value fun a w c => ⟨(wanted_yes rfl (by kernel_rfl) (c.new 5 57 (by kernel_rfl) (by kernel_rfl))), .bool true, ?_, rfl⟩
                have e60 : a.eval (.tmp 60) = .bool false := (c.new 8 60 (by kernel_rfl) (by kernel_rfl))
                generalize a.eval = ρ at e60 ⊢
                simp [execOp, e60, go_sem]
              · refine op_value fun a w c => ⟨(wanted_yes rfl (by kernel_rfl) (c.new 5 57 (by kernel_rfl) (by kernel_rfl))), _, run_move _ rfl w, (c.new 9 61 (by kernel_rfl) (by kernel_rfl))⟩
              · refine op_skip fun a w c => ⟨(wanted_no rfl (by kernel_rfl) (c.new 10 62 (by kernel_rfl) (by kernel_rfl)) (by decide)), trivial⟩
              · refine op_skip fun a w c => ⟨(wanted_no rfl (by kernel_rfl) (c.new 10 62 (by kernel_rfl) (by kernel_rfl)) (by decide)), trivial⟩
              · refine op_skip fun a w c => ⟨(wanted_no rfl (by kernel_rfl) (c.new 10 62 (by kernel_rfl) (by kernel_rfl)) (by decide)), trivial⟩
              · refine op_skip fun a w c => ⟨(wanted_no rfl (by kernel_rfl) (c.new 10 62 (by kernel_rfl) (by kernel_rfl)) (by decide)), trivial⟩
              · refine op_value fun a w c => ⟨(wanted_yes rfl (by kernel_rfl) (c.new 5 57 (by kernel_rfl) (by kernel_rfl))), _, run_pick_true rfl (c.new 10 62 (by kernel_rfl) (by kernel_rfl)) w, (evc a _)⟩
              · refine op_value fun a w c => ⟨(wanted_yes rfl (by kernel_rfl) (c.new 5 57 (by kernel_rfl) (by kernel_rfl))), _, run_move _ rfl w, (c.new 15 67 (by kernel_rfl) (by kernel_rfl))⟩
              · refine op_skip fun a w c => ⟨(wanted_no rfl (by kernel_rfl) (c.new 16 68 (by kernel_rfl) (by kernel_rfl)) (by decide)), trivial⟩
              · refine op_skip fun a w c => ⟨(wanted_no rfl (by kernel_rfl) (c.new 16 68 (by kernel_rfl) (by kernel_rfl)) (by decide)), trivial⟩
              · refine op_skip fun a w c => ⟨(wanted_no rfl (by kernel_rfl) (c.new 16 68 (by kernel_rfl) (by kernel_rfl)) (by decide)), trivial⟩
              · refine op_value fun a w c => ⟨(wanted_yes rfl (by kernel_rfl) (c.new 5 57 (by kernel_rfl) (by kernel_rfl))), _, run_pick_true rfl (c.new 16 68 (by kernel_rfl) (by kernel_rfl)) w, (evc a _)⟩
              · refine op_value fun a w c => ⟨(wanted_plain rfl), _, run_pick_true rfl (c.new 5 57 (by kernel_rfl) (by kernel_rfl)) w, (c.new 20 72 (by kernel_rfl) (by kernel_rfl))⟩
              · refine op_value fun a w c => ⟨(wanted_plain rfl), _, run_move _ rfl w, (c.new 21 73 (by kernel_rfl) (by kernel_rfl))⟩
              · refine op_value fun a w c => ⟨(wanted_yes rfl (by kernel_rfl) (c.new 22 74 (by kernel_rfl) (by kernel_rfl))), _, run_load_val rfl ((c.was 3 (by kernel_rfl) rfl) : a.eval (.tmp 3) = .pointer (some ⟨H, 0, none⟩)) (B10.ev c.ev), rfl⟩
              · refine op_call fun a w c => ⟨(wanted_yes rfl (by kernel_rfl) (c.new 22 74 (by kernel_rfl) (by kernel_rfl))), 12, #[vv k0 n0 s0], ?_, ?_⟩
                · rw [run_call 12 _ _ rfl (by kernel_rfl)]
                  have e75 : a.eval (.tmp 75) = vv k0 n0 s0 := (c.new 23 75 (by kernel_rfl) (by kernel_rfl))
                  simp [e75]
                · refine (value_show _ _ _ w (hT10.ev c.ev) hn0.1 hn0.2).mono ?_
                  rintro e w2 ⟨rfl, hE⟩
                  exact ⟨_, rfl, hE, congrArg Value.string ht0⟩
              · refine op_value fun a w c => ⟨(wanted_yes rfl (by kernel_rfl) (c.new 22 74 (by kernel_rfl) (by kernel_rfl))), _, run_load_val rfl ((c.was 4 (by kernel_rfl) rfl) : a.eval (.tmp 4) = .pointer (some ⟨H + 1, 0, none⟩)) (B10b.ev c.ev), rfl⟩
              · refine op_call fun a w c => ⟨(wanted_yes rfl (by kernel_rfl) (c.new 22 74 (by kernel_rfl) (by kernel_rfl))), 12, #[vv k1 n1 s1], ?_, ?_⟩
                · rw [run_call 12 _ _ rfl (by kernel_rfl)]
                  have e77 : a.eval (.tmp 77) = vv k1 n1 s1 := (c.new 25 77 (by kernel_rfl) (by kernel_rfl))
                  simp [e77]
                · refine (value_show _ _ _ w (hT10.ev c.ev) hn1.1 hn1.2).mono ?_
                  rintro e w2 ⟨rfl, hE⟩
                  exact ⟨_, rfl, hE, congrArg Value.string ht1⟩
              · refine op_value fun a w c => ⟨(wanted_yes rfl (by kernel_rfl) (c.new 22 74 (by kernel_rfl) (by kernel_rfl))), .bool sm, ?_, rfl⟩
                have e76 : a.eval (.tmp 76) = .string t0 := (c.new 24 76 (by kernel_rfl) (by kernel_rfl))
                have e78 : a.eval (.tmp 78) = .string t1 := (c.new 26 78 (by kernel_rfl) (by kernel_rfl))
                generalize a.eval = ρ at e76 e78 ⊢
                simp [execOp, e76, e78, go_sem, hsh]
              · refine op_value fun a w c => ⟨(wanted_yes rfl (by kernel_rfl) (c.new 22 74 (by kernel_rfl) (by kernel_rfl))), _, run_load_val rfl ((c.was 3 (by kernel_rfl) rfl) : a.eval (.tmp 3) = .pointer (some ⟨H, 0, none⟩)) (B10.ev c.ev), rfl⟩
              · refine op_value fun a w c => ⟨(wanted_yes rfl (by kernel_rfl) (c.new 22 74 (by kernel_rfl) (by kernel_rfl))), _, run_load_val rfl ((c.was 4 (by kernel_rfl) rfl) : a.eval (.tmp 4) = .pointer (some ⟨H + 1, 0, none⟩)) (B10b.ev c.ev), rfl⟩
              · refine op_value fun a w c => ⟨(wanted_yes rfl (by kernel_rfl) (c.new 22 74 (by kernel_rfl) (by kernel_rfl))), _, op_eq_val rfl ((c.new 28 80 (by kernel_rfl) (by kernel_rfl)) : a.eval (.tmp 80) = vv k0 n0 s0) ((c.new 29 81 (by kernel_rfl) (by kernel_rfl)) : a.eval (.tmp 81) = vv k1 n1 s1), congrArg Value.bool hsm⟩
              · refine op_value fun a w c => ⟨(wanted_yes rfl (by kernel_rfl) (c.new 22 74 (by kernel_rfl) (by kernel_rfl))), .bool true, ?_, rfl⟩
                have e79 : a.eval (.tmp 79) = .bool sm := (c.new 27 79 (by kernel_rfl) (by kernel_rfl))
                have e82 : a.eval (.tmp 82) = .bool sm := (c.new 30 82 (by kernel_rfl) (by kernel_rfl))
                generalize a.eval = ρ at e79 e82 ⊢
                simp [execOp, e79, e82, go_sem]
              · refine op_value fun a w c => ⟨(wanted_plain rfl), _, run_pick_true rfl (c.new 22 74 (by kernel_rfl) (by kernel_rfl)) w, (c.new 31 83 (by kernel_rfl) (by kernel_rfl))⟩
              · refine op_value fun a w c => ⟨(wanted_plain rfl), _, run_move _ rfl w, (c.new 32 84 (by kernel_rfl) (by kernel_rfl))⟩
              · refine op_value fun a w c => ⟨(wanted_yes rfl (by kernel_rfl) (c.new 33 85 (by kernel_rfl) (by kernel_rfl))), _, run_load_val rfl ((c.was 9 (by kernel_rfl) rfl) : a.eval (.tmp 9) = .pointer (some ⟨g, 0, none⟩)) (BX10.ev c.ev), rfl⟩
              · refine op_value fun a w c => ⟨(wanted_yes rfl (by kernel_rfl) (c.new 33 85 (by kernel_rfl) (by kernel_rfl))), _, run_load_val rfl ((c.was 3 (by kernel_rfl) rfl) : a.eval (.tmp 3) = .pointer (some ⟨H, 0, none⟩)) (B10.ev c.ev), rfl⟩
              · refine op_value fun a w c => ⟨(wanted_yes rfl (by kernel_rfl) (c.new 33 85 (by kernel_rfl) (by kernel_rfl))), _, op_eq_val rfl ((c.new 34 86 (by kernel_rfl) (by kernel_rfl)) : a.eval (.tmp 86) = vv k0 n0 s0) ((c.new 35 87 (by kernel_rfl) (by kernel_rfl)) : a.eval (.tmp 87) = vv k0 n0 s0), congrArg Value.bool (sameV_self _ _ _)⟩
              · refine op_value fun a w c => ⟨(wanted_plain rfl), _, run_pick_true rfl (c.new 33 85 (by kernel_rfl) (by kernel_rfl)) w, (c.new 36 88 (by kernel_rfl) (by kernel_rfl))⟩
              · refine op_value fun a w c => ⟨(wanted_plain rfl), _, run_move _ rfl w, (c.new 37 89 (by kernel_rfl) (by kernel_rfl))⟩
              · refine op_value fun a w c => ⟨(wanted_yes rfl (by kernel_rfl) (c.new 38 90 (by kernel_rfl) (by kernel_rfl))), _, run_move _ rfl w, (c.was 10 (by kernel_rfl) rfl)⟩
              · refine op_value fun a w c => ⟨(wanted_yes rfl (by kernel_rfl) (c.new 38 90 (by kernel_rfl) (by kernel_rfl))), .bool true, ?_, rfl⟩
                have e91 : a.eval (.tmp 91) = .int .i64 0 := (c.new 39 91 (by kernel_rfl) (by kernel_rfl))
                have kc0 : a.eval (.const (.int .i64 0)) = .int .i64 0 := rfl
                generalize a.eval = ρ at e91 kc0 ⊢
                simp [execOp, e91, kc0, go_sem]
              · refine op_value fun a w c => ⟨(wanted_plain rfl), _, run_pick_true rfl (c.new 38 90 (by kernel_rfl) (by kernel_rfl)) w, (c.new 40 92 (by kernel_rfl) (by kernel_rfl))⟩
              · refine op_value fun a w c => ⟨(wanted_plain rfl), _, run_move _ rfl w, (c.new 41 93 (by kernel_rfl) (by kernel_rfl))⟩
              · refine op_call fun a w c => ⟨(wanted_yes rfl (by kernel_rfl) (c.new 42 94 (by kernel_rfl) (by kernel_rfl))), 16, #[], ?_, ?_⟩
                · rw [run_call 16 _ _ rfl (by kernel_rfl)]
                  simp
                · refine (known_any w (hT10.ev c.ev)).mono ?_
                  rintro e w2 ⟨rfl, hE⟩
                  exact ⟨_, rfl, hE, rfl⟩
              · refine op_value fun a w c => ⟨(wanted_plain rfl), _, run_pick_true rfl (c.new 42 94 (by kernel_rfl) (by kernel_rfl)) w, (c.new 43 95 (by kernel_rfl) (by kernel_rfl))⟩
              · refine op_value fun a w c => ⟨(wanted_plain rfl), _, run_assign _ rfl w, (c.new 44 96 (by kernel_rfl) (by kernel_rfl))⟩
            · intro s w11 hEs hold hnew
              have f3 : s 3 = .pointer (some ⟨H, 0, none⟩) := hold 3 (by kernel_rfl)
              have f4 : s 4 = .pointer (some ⟨H + 1, 0, none⟩) := hold 4 (by kernel_rfl)
              have f5 : s 5 = .pointer (some ⟨H + 1 + 1, 0, none⟩) := hold 5 (by kernel_rfl)
              have f9 : s 9 = .pointer (some ⟨g, 0, none⟩) := hold 9 (by kernel_rfl)
              have f10 : s 10 = .int .i64 0 := hold 10 (by kernel_rfl)
              have f11 : s 11 = .int .i64 0 := hold 11 (by kernel_rfl)
              have f12 : s 12 = .bool nsm := hold 12 (by kernel_rfl)
              have f6 : s 6 = .bool true := hnew 45 6 (by kernel_rfl)
              have f52 : s 52 = .bool nsm := hnew 0 52 (by kernel_rfl)
              have f53 : s 53 = vv k0 n0 s0 := hnew 1 53 (by kernel_rfl)
              have f54 : s 54 = vv k1 n1 s1 := hnew 2 54 (by kernel_rfl)
              have f55 : s 55 = .bool nsm := hnew 3 55 (by kernel_rfl)
              have f56 : s 56 = .bool true := hnew 4 56 (by kernel_rfl)
              have f57 : s 57 = .bool true := hnew 5 57 (by kernel_rfl)
              have f58 : s 58 = vv k0 n0 s0 := hnew 6 58 (by kernel_rfl)
              have f59 : s 59 = vv k1 n1 s1 := hnew 7 59 (by kernel_rfl)
              have f60 : s 60 = .bool false := hnew 8 60 (by kernel_rfl)
              have f61 : s 61 = .bool true := hnew 9 61 (by kernel_rfl)
              have f62 : s 62 = .bool true := hnew 10 62 (by kernel_rfl)
              have f67 : s 67 = .bool true := hnew 15 67 (by kernel_rfl)
              have f68 : s 68 = .bool true := hnew 16 68 (by kernel_rfl)
              have f72 : s 72 = .bool true := hnew 20 72 (by kernel_rfl)
              have f73 : s 73 = .bool true := hnew 21 73 (by kernel_rfl)
              have f74 : s 74 = .bool true := hnew 22 74 (by kernel_rfl)
              have f75 : s 75 = vv k0 n0 s0 := hnew 23 75 (by kernel_rfl)
              have f76 : s 76 = .string t0 := hnew 24 76 (by kernel_rfl)
              have f77 : s 77 = vv k1 n1 s1 := hnew 25 77 (by kernel_rfl)
              have f78 : s 78 = .string t1 := hnew 26 78 (by kernel_rfl)
              have f79 : s 79 = .bool sm := hnew 27 79 (by kernel_rfl)
              have f80 : s 80 = vv k0 n0 s0 := hnew 28 80 (by kernel_rfl)
              have f81 : s 81 = vv k1 n1 s1 := hnew 29 81 (by kernel_rfl)
              have f82 : s 82 = .bool sm := hnew 30 82 (by kernel_rfl)
              have f83 : s 83 = .bool true := hnew 31 83 (by kernel_rfl)
              have f84 : s 84 = .bool true := hnew 32 84 (by kernel_rfl)
              have f85 : s 85 = .bool true := hnew 33 85 (by kernel_rfl)
              have f86 : s 86 = vv k0 n0 s0 := hnew 34 86 (by kernel_rfl)
              have f87 : s 87 = vv k0 n0 s0 := hnew 35 87 (by kernel_rfl)
              have f88 : s 88 = .bool true := hnew 36 88 (by kernel_rfl)
              have f89 : s 89 = .bool true := hnew 37 89 (by kernel_rfl)
              have f90 : s 90 = .bool true := hnew 38 90 (by kernel_rfl)
              have f91 : s 91 = .int .i64 0 := hnew 39 91 (by kernel_rfl)
              have f92 : s 92 = .bool true := hnew 40 92 (by kernel_rfl)
              have f93 : s 93 = .bool true := hnew 41 93 (by kernel_rfl)
              have f94 : s 94 = .bool true := hnew 42 94 (by kernel_rfl)
              have f95 : s 95 = .bool true := hnew 43 95 (by kernel_rfl)
              have f96 : s 96 = .bool true := hnew 44 96 (by kernel_rfl)
              change Exit.then _ _ .normal ⟨#[s 0, s 1, s 2, s 3, s 4, s 5, s 6, s 7, s 8, s 9, s 10, s 11, s 12, s 13, s 14, s 15, s 16, s 17, s 18, s 19, s 20, s 21, s 22, s 23, s 24, s 25, s 26, s 27, s 28, s 29, s 30, s 31, s 32, s 33, s 34, s 35, s 36, s 37, s 38, s 39, s 40, s 41, s 42, s 43, s 44, s 45, s 46, s 47, s 48, s 49, s 50, s 51, s 52, s 53, s 54, s 55, s 56, s 57, s 58, s 59, s 60, s 61, s 62, s 63, s 64, s 65, s 66, s 67, s 68, s 69, s 70, s 71, s 72, s 73, s 74, s 75, s 76, s 77, s 78, s 79, s 80, s 81, s 82, s 83, s 84, s 85, s 86, s 87, s 88, s 89, s 90, s 91, s 92, s 93, s 94, s 95, s 96], _⟩ _
              simp only [f3, f4, f5, f9, f10, f11, f12, f6, f52, f53, f54, f55, f56, f57, f58, f59, f60, f61, f62, f67, f68, f72, f73, f74, f75, f76, f77, f78, f79, f80, f81, f82, f83, f84, f85, f86, f87, f88, f89, f90, f91, f92, f93, f94, f95, f96]
              clear hold hnew
              go_wp2
              go_ret
              exact ⟨rfl, (E9.trans hEr).trans hEs⟩
          · cases b
            · have hnn := HNSM.out
              refine wp_region_slots hmix [fun v _ => v = .bool nsm, fun v _ => v = vv k0 n0 s0, fun v _ => v = vv k1 n1 s1, fun v _ => v = .bool nsm, fun v _ => v = .bool true, fun v _ => v = .bool true, fun v _ => v = vv k0 n0 s0, fun v _ => v = vv k1 n1 s1, fun v _ => v = .bool true, fun v _ => v = .bool false, fun v _ => v = .bool false, fun v _ => v = vv k1 n1 s1, fun v _ => v = vv k2 n2 s2, fun v _ => v = .bool false, fun v _ => v = .bool true, fun v _ => v = .bool true, fun v _ => v = .bool true, fun _ _ => True, fun _ _ => True, fun _ _ => True, fun v _ => v = .bool true, fun v _ => v = .bool true, fun v _ => v = .bool true, fun v _ => v = vv k0 n0 s0, fun v _ => v = .string t0, fun v _ => v = vv k1 n1 s1, fun v _ => v = .string t1, fun v _ => v = .bool sm, fun v _ => v = vv k0 n0 s0, fun v _ => v = vv k1 n1 s1, fun v _ => v = .bool sm, fun v _ => v = .bool true, fun v _ => v = .bool true, fun v _ => v = .bool true, fun v _ => v = vv k0 n0 s0, fun v _ => v = vv k0 n0 s0, fun v _ => v = .bool true, fun v _ => v = .bool true, fun v _ => v = .bool true, fun v _ => v = .int .i64 0, fun v _ => v = .bool true, fun v _ => v = .bool true, fun v _ => v = .bool true, fun v _ => v = .bool true, fun v _ => v = .bool true, fun v _ => v = .bool true]
                97 rfl (by kernel_rfl) ⟨mono_eq _, mono_eq _, mono_eq _, mono_eq _, mono_eq _, mono_eq _, mono_eq _, mono_eq _, mono_eq _, mono_eq _, mono_eq _, mono_eq _, mono_eq _, mono_eq _, mono_eq _, mono_eq _, mono_eq _, mono_true, mono_true, mono_true, mono_eq _, mono_eq _, mono_eq _, mono_eq _, mono_eq _, mono_eq _, mono_eq _, mono_eq _, mono_eq _, mono_eq _, mono_eq _, mono_eq _, mono_eq _, mono_eq _, mono_eq _, mono_eq _, mono_eq _, mono_eq _, mono_eq _, mono_eq _, mono_eq _, mono_eq _, mono_eq _, mono_eq _, mono_eq _, mono_eq _, trivial⟩ ?_ ?_
              · refine ops_cons 0 ?_ (ops_cons 1 ?_ (ops_cons 2 ?_ (ops_cons 3 ?_ (ops_cons 4 ?_ (ops_cons 5 ?_ (ops_cons 6 ?_ (ops_cons 7 ?_ (ops_cons 8 ?_ (ops_cons 9 ?_ (ops_cons 10 ?_ (ops_cons 11 ?_ (ops_cons 12 ?_ (ops_cons 13 ?_ (ops_cons 14 ?_ (ops_cons 15 ?_ (ops_cons 16 ?_ (ops_cons 17 ?_ (ops_cons 18 ?_ (ops_cons 19 ?_ (ops_cons 20 ?_ (ops_cons 21 ?_ (ops_cons 22 ?_ (ops_cons 23 ?_ (ops_cons 24 ?_ (ops_cons 25 ?_ (ops_cons 26 ?_ (ops_cons 27 ?_ (ops_cons 28 ?_ (ops_cons 29 ?_ (ops_cons 30 ?_ (ops_cons 31 ?_ (ops_cons 32 ?_ (ops_cons 33 ?_ (ops_cons 34 ?_ (ops_cons 35 ?_ (ops_cons 36 ?_ (ops_cons 37 ?_ (ops_cons 38 ?_ (ops_cons 39 ?_ (ops_cons 40 ?_ (ops_cons 41 ?_ (ops_cons 42 ?_ (ops_cons 43 ?_ (ops_cons 44 ?_ (ops_cons 45 ?_ (ops_nil 46))))))))))))))))))))))))))))))))))))))))))))))
                · refine op_value fun a w c => ⟨(wanted_plain rfl), _, run_move _ rfl w, (c.was 12 (by kernel_rfl) rfl)⟩
                · refine op_value fun a w c => ⟨(wanted_plain rfl), _, run_load_val rfl ((c.was 3 (by kernel_rfl) rfl) : a.eval (.tmp 3) = .pointer (some ⟨H, 0, none⟩)) (B10.ev c.ev), rfl⟩
                · refine op_value fun a w c => ⟨(wanted_plain rfl), _, run_load_val rfl ((c.was 4 (by kernel_rfl) rfl) : a.eval (.tmp 4) = .pointer (some ⟨H + 1, 0, none⟩)) (B10b.ev c.ev), rfl⟩
                · refine op_value fun a w c => ⟨(wanted_plain rfl), _, op_neq_val rfl ((c.new 1 53 (by kernel_rfl) (by kernel_rfl)) : a.eval (.tmp 53) = vv k0 n0 s0) ((c.new 2 54 (by kernel_rfl) (by kernel_rfl)) : a.eval (.tmp 54) = vv k1 n1 s1), congrArg Value.bool hnm⟩
                · refine op_value fun a w c => ⟨(wanted_plain rfl), .bool true, ?_, rfl⟩
                  have e52 : a.eval (.tmp 52) = .bool nsm := (c.new 0 52 (by kernel_rfl) (by kernel_rfl))
                  have e55 : a.eval (.tmp 55) = .bool nsm := (c.new 3 55 (by kernel_rfl) (by kernel_rfl))
                  generalize a.eval = ρ at e52 e55 ⊢
                  simp [execOp, e52, e55, go_sem]
                · refine op_value fun a w c => ⟨(wanted_plain rfl), _, run_move _ rfl w, (c.new 4 56 (by kernel_rfl) (by kernel_rfl))⟩
                · refine op_value fun a w c => ⟨(wanted_yes rfl (by kernel_rfl) (c.new 5 57 (by kernel_rfl) (by kernel_rfl))), _, run_load_val rfl ((c.was 3 (by kernel_rfl) rfl) : a.eval (.tmp 3) = .pointer (some ⟨H, 0, none⟩)) (B10.ev c.ev), rfl⟩
                · refine op_value fun a w c => ⟨(wanted_yes rfl (by kernel_rfl) (c.new 5 57 (by kernel_rfl) (by kernel_rfl))), _, run_load_val rfl ((c.was 4 (by kernel_rfl) rfl) : a.eval (.tmp 4) = .pointer (some ⟨H + 1, 0, none⟩)) (B10b.ev c.ev), rfl⟩
                · refine op_call fun a w c => ⟨(wanted_yes rfl (by kernel_rfl) (c.new 5 57 (by kernel_rfl) (by kernel_rfl))), 15, #[vv k0 n0 s0, vv k1 n1 s1], ?_, ?_⟩
                  · rw [run_call 15 _ _ rfl (by kernel_rfl)]
                    have e58 : a.eval (.tmp 58) = vv k0 n0 s0 := (c.new 6 58 (by kernel_rfl) (by kernel_rfl))
                    have e59 : a.eval (.tmp 59) = vv k1 n1 s1 := (c.new 7 59 (by kernel_rfl) (by kernel_rfl))
                    simp [e58, e59]
                  · refine (value_less _ _ _ _ _ _ w).mono ?_
                    rintro e w2 ⟨rfl, hE⟩
                    exact ⟨_, rfl, hE, congrArg Value.bool hx⟩
                · refine op_value fun a w c => ⟨(wanted_yes rfl (by kernel_rfl) (c.new 5 57 (by kernel_rfl) (by kernel_rfl))), .bool false, ?_, rfl⟩
                  have e60 : a.eval (.tmp 60) = .bool true := (c.new 8 60 (by kernel_rfl) (by kernel_rfl))
                  generalize a.eval = ρ at e60 ⊢
                  simp [execOp, e60, go_sem]
                · refine op_value fun a w c => ⟨(wanted_yes rfl (by kernel_rfl) (c.new 5 57 (by kernel_rfl) (by kernel_rfl))), _, run_move _ rfl w, (c.new 9 61 (by kernel_rfl) (by kernel_rfl))⟩
                · refine op_value fun a w c => ⟨(wanted_yes rfl (by kernel_rfl) (c.new 10 62 (by kernel_rfl) (by kernel_rfl))), _, run_load_val rfl ((c.was 4 (by kernel_rfl) rfl) : a.eval (.tmp 4) = .pointer (some ⟨H + 1, 0, none⟩)) (B10b.ev c.ev), rfl⟩
                · refine op_value fun a w c => ⟨(wanted_yes rfl (by kernel_rfl) (c.new 10 62 (by kernel_rfl) (by kernel_rfl))), _, run_load_val rfl ((c.was 5 (by kernel_rfl) rfl) : a.eval (.tmp 5) = .pointer (some ⟨H + 1 + 1, 0, none⟩)) (B10c.ev c.ev), rfl⟩
                · refine op_call fun a w c => ⟨(wanted_yes rfl (by kernel_rfl) (c.new 10 62 (by kernel_rfl) (by kernel_rfl))), 15, #[vv k1 n1 s1, vv k2 n2 s2], ?_, ?_⟩
                  · rw [run_call 15 _ _ rfl (by kernel_rfl)]
                    have e63 : a.eval (.tmp 63) = vv k1 n1 s1 := (c.new 11 63 (by kernel_rfl) (by kernel_rfl))
                    have e64 : a.eval (.tmp 64) = vv k2 n2 s2 := (c.new 12 64 (by kernel_rfl) (by kernel_rfl))
                    simp [e63, e64]
                  · refine (value_less _ _ _ _ _ _ w).mono ?_
                    rintro e w2 ⟨rfl, hE⟩
                    exact ⟨_, rfl, hE, congrArg Value.bool hb⟩
                · refine op_value fun a w c => ⟨(wanted_yes rfl (by kernel_rfl) (c.new 10 62 (by kernel_rfl) (by kernel_rfl))), .bool true, ?_, rfl⟩
                  have e65 : a.eval (.tmp 65) = .bool false := (c.new 13 65 (by kernel_rfl) (by kernel_rfl))
                  generalize a.eval = ρ at e65 ⊢
                  simp [execOp, e65, go_sem]
                · refine op_value fun a w c => ⟨(wanted_yes rfl (by kernel_rfl) (c.new 5 57 (by kernel_rfl) (by kernel_rfl))), _, run_pick_false rfl (c.new 10 62 (by kernel_rfl) (by kernel_rfl)) w, (c.new 14 66 (by kernel_rfl) (by kernel_rfl))⟩
                · refine op_value fun a w c => ⟨(wanted_yes rfl (by kernel_rfl) (c.new 5 57 (by kernel_rfl) (by kernel_rfl))), _, run_move _ rfl w, (c.new 15 67 (by kernel_rfl) (by kernel_rfl))⟩
                · refine op_skip fun a w c => ⟨(wanted_no rfl (by kernel_rfl) (c.new 16 68 (by kernel_rfl) (by kernel_rfl)) (by decide)), trivial⟩
                · refine op_skip fun a w c => ⟨(wanted_no rfl (by kernel_rfl) (c.new 16 68 (by kernel_rfl) (by kernel_rfl)) (by decide)), trivial⟩
                · refine op_skip fun a w c => ⟨(wanted_no rfl (by kernel_rfl) (c.new 16 68 (by kernel_rfl) (by kernel_rfl)) (by decide)), trivial⟩
                · refine op_value fun a w c => ⟨(wanted_yes rfl (by kernel_rfl) (c.new 5 57 (by kernel_rfl) (by kernel_rfl))), _, run_pick_true rfl (c.new 16 68 (by kernel_rfl) (by kernel_rfl)) w, (evc a _)⟩
                · refine op_value fun a w c => ⟨(wanted_plain rfl), _, run_pick_true rfl (c.new 5 57 (by kernel_rfl) (by kernel_rfl)) w, (c.new 20 72 (by kernel_rfl) (by kernel_rfl))⟩
                · refine op_value fun a w c => ⟨(wanted_plain rfl), _, run_move _ rfl w, (c.new 21 73 (by kernel_rfl) (by kernel_rfl))⟩
                · refine op_value fun a w c => ⟨(wanted_yes rfl (by kernel_rfl) (c.new 22 74 (by kernel_rfl) (by kernel_rfl))), _, run_load_val rfl ((c.was 3 (by kernel_rfl) rfl) : a.eval (.tmp 3) = .pointer (some ⟨H, 0, none⟩)) (B10.ev c.ev), rfl⟩
                · refine op_call fun a w c => ⟨(wanted_yes rfl (by kernel_rfl) (c.new 22 74 (by kernel_rfl) (by kernel_rfl))), 12, #[vv k0 n0 s0], ?_, ?_⟩
                  · rw [run_call 12 _ _ rfl (by kernel_rfl)]
                    have e75 : a.eval (.tmp 75) = vv k0 n0 s0 := (c.new 23 75 (by kernel_rfl) (by kernel_rfl))
                    simp [e75]
                  · refine (value_show _ _ _ w (hT10.ev c.ev) hn0.1 hn0.2).mono ?_
                    rintro e w2 ⟨rfl, hE⟩
                    exact ⟨_, rfl, hE, congrArg Value.string ht0⟩
                · refine op_value fun a w c => ⟨(wanted_yes rfl (by kernel_rfl) (c.new 22 74 (by kernel_rfl) (by kernel_rfl))), _, run_load_val rfl ((c.was 4 (by kernel_rfl) rfl) : a.eval (.tmp 4) = .pointer (some ⟨H + 1, 0, none⟩)) (B10b.ev c.ev), rfl⟩
                · refine op_call fun a w c => ⟨(wanted_yes rfl (by kernel_rfl) (c.new 22 74 (by kernel_rfl) (by kernel_rfl))), 12, #[vv k1 n1 s1], ?_, ?_⟩
                  · rw [run_call 12 _ _ rfl (by kernel_rfl)]
                    have e77 : a.eval (.tmp 77) = vv k1 n1 s1 := (c.new 25 77 (by kernel_rfl) (by kernel_rfl))
                    simp [e77]
                  · refine (value_show _ _ _ w (hT10.ev c.ev) hn1.1 hn1.2).mono ?_
                    rintro e w2 ⟨rfl, hE⟩
                    exact ⟨_, rfl, hE, congrArg Value.string ht1⟩
                · refine op_value fun a w c => ⟨(wanted_yes rfl (by kernel_rfl) (c.new 22 74 (by kernel_rfl) (by kernel_rfl))), .bool sm, ?_, rfl⟩
                  have e76 : a.eval (.tmp 76) = .string t0 := (c.new 24 76 (by kernel_rfl) (by kernel_rfl))
                  have e78 : a.eval (.tmp 78) = .string t1 := (c.new 26 78 (by kernel_rfl) (by kernel_rfl))
                  generalize a.eval = ρ at e76 e78 ⊢
                  simp [execOp, e76, e78, go_sem, hsh]
                · refine op_value fun a w c => ⟨(wanted_yes rfl (by kernel_rfl) (c.new 22 74 (by kernel_rfl) (by kernel_rfl))), _, run_load_val rfl ((c.was 3 (by kernel_rfl) rfl) : a.eval (.tmp 3) = .pointer (some ⟨H, 0, none⟩)) (B10.ev c.ev), rfl⟩
                · refine op_value fun a w c => ⟨(wanted_yes rfl (by kernel_rfl) (c.new 22 74 (by kernel_rfl) (by kernel_rfl))), _, run_load_val rfl ((c.was 4 (by kernel_rfl) rfl) : a.eval (.tmp 4) = .pointer (some ⟨H + 1, 0, none⟩)) (B10b.ev c.ev), rfl⟩
                · refine op_value fun a w c => ⟨(wanted_yes rfl (by kernel_rfl) (c.new 22 74 (by kernel_rfl) (by kernel_rfl))), _, op_eq_val rfl ((c.new 28 80 (by kernel_rfl) (by kernel_rfl)) : a.eval (.tmp 80) = vv k0 n0 s0) ((c.new 29 81 (by kernel_rfl) (by kernel_rfl)) : a.eval (.tmp 81) = vv k1 n1 s1), congrArg Value.bool hsm⟩
                · refine op_value fun a w c => ⟨(wanted_yes rfl (by kernel_rfl) (c.new 22 74 (by kernel_rfl) (by kernel_rfl))), .bool true, ?_, rfl⟩
                  have e79 : a.eval (.tmp 79) = .bool sm := (c.new 27 79 (by kernel_rfl) (by kernel_rfl))
                  have e82 : a.eval (.tmp 82) = .bool sm := (c.new 30 82 (by kernel_rfl) (by kernel_rfl))
                  generalize a.eval = ρ at e79 e82 ⊢
                  simp [execOp, e79, e82, go_sem]
                · refine op_value fun a w c => ⟨(wanted_plain rfl), _, run_pick_true rfl (c.new 22 74 (by kernel_rfl) (by kernel_rfl)) w, (c.new 31 83 (by kernel_rfl) (by kernel_rfl))⟩
                · refine op_value fun a w c => ⟨(wanted_plain rfl), _, run_move _ rfl w, (c.new 32 84 (by kernel_rfl) (by kernel_rfl))⟩
                · refine op_value fun a w c => ⟨(wanted_yes rfl (by kernel_rfl) (c.new 33 85 (by kernel_rfl) (by kernel_rfl))), _, run_load_val rfl ((c.was 9 (by kernel_rfl) rfl) : a.eval (.tmp 9) = .pointer (some ⟨g, 0, none⟩)) (BX10.ev c.ev), rfl⟩
                · refine op_value fun a w c => ⟨(wanted_yes rfl (by kernel_rfl) (c.new 33 85 (by kernel_rfl) (by kernel_rfl))), _, run_load_val rfl ((c.was 3 (by kernel_rfl) rfl) : a.eval (.tmp 3) = .pointer (some ⟨H, 0, none⟩)) (B10.ev c.ev), rfl⟩
                · refine op_value fun a w c => ⟨(wanted_yes rfl (by kernel_rfl) (c.new 33 85 (by kernel_rfl) (by kernel_rfl))), _, op_eq_val rfl ((c.new 34 86 (by kernel_rfl) (by kernel_rfl)) : a.eval (.tmp 86) = vv k0 n0 s0) ((c.new 35 87 (by kernel_rfl) (by kernel_rfl)) : a.eval (.tmp 87) = vv k0 n0 s0), congrArg Value.bool (sameV_self _ _ _)⟩
                · refine op_value fun a w c => ⟨(wanted_plain rfl), _, run_pick_true rfl (c.new 33 85 (by kernel_rfl) (by kernel_rfl)) w, (c.new 36 88 (by kernel_rfl) (by kernel_rfl))⟩
                · refine op_value fun a w c => ⟨(wanted_plain rfl), _, run_move _ rfl w, (c.new 37 89 (by kernel_rfl) (by kernel_rfl))⟩
                · refine op_value fun a w c => ⟨(wanted_yes rfl (by kernel_rfl) (c.new 38 90 (by kernel_rfl) (by kernel_rfl))), _, run_move _ rfl w, (c.was 10 (by kernel_rfl) rfl)⟩
                · refine op_value fun a w c => ⟨(wanted_yes rfl (by kernel_rfl) (c.new 38 90 (by kernel_rfl) (by kernel_rfl))), .bool true, ?_, rfl⟩
                  have e91 : a.eval (.tmp 91) = .int .i64 0 := (c.new 39 91 (by kernel_rfl) (by kernel_rfl))
                  have kc0 : a.eval (.const (.int .i64 0)) = .int .i64 0 := rfl
                  generalize a.eval = ρ at e91 kc0 ⊢
                  simp [execOp, e91, kc0, go_sem]
                · refine op_value fun a w c => ⟨(wanted_plain rfl), _, run_pick_true rfl (c.new 38 90 (by kernel_rfl) (by kernel_rfl)) w, (c.new 40 92 (by kernel_rfl) (by kernel_rfl))⟩
                · refine op_value fun a w c => ⟨(wanted_plain rfl), _, run_move _ rfl w, (c.new 41 93 (by kernel_rfl) (by kernel_rfl))⟩
                · refine op_call fun a w c => ⟨(wanted_yes rfl (by kernel_rfl) (c.new 42 94 (by kernel_rfl) (by kernel_rfl))), 16, #[], ?_, ?_⟩
                  · rw [run_call 16 _ _ rfl (by kernel_rfl)]
                    simp
                  · refine (known_any w (hT10.ev c.ev)).mono ?_
                    rintro e w2 ⟨rfl, hE⟩
                    exact ⟨_, rfl, hE, rfl⟩
                · refine op_value fun a w c => ⟨(wanted_plain rfl), _, run_pick_true rfl (c.new 42 94 (by kernel_rfl) (by kernel_rfl)) w, (c.new 43 95 (by kernel_rfl) (by kernel_rfl))⟩
                · refine op_value fun a w c => ⟨(wanted_plain rfl), _, run_assign _ rfl w, (c.new 44 96 (by kernel_rfl) (by kernel_rfl))⟩
              · intro s w11 hEs hold hnew
                have f3 : s 3 = .pointer (some ⟨H, 0, none⟩) := hold 3 (by kernel_rfl)
                have f4 : s 4 = .pointer (some ⟨H + 1, 0, none⟩) := hold 4 (by kernel_rfl)
                have f5 : s 5 = .pointer (some ⟨H + 1 + 1, 0, none⟩) := hold 5 (by kernel_rfl)
                have f9 : s 9 = .pointer (some ⟨g, 0, none⟩) := hold 9 (by kernel_rfl)
                have f10 : s 10 = .int .i64 0 := hold 10 (by kernel_rfl)
                have f11 : s 11 = .int .i64 0 := hold 11 (by kernel_rfl)
                have f12 : s 12 = .bool nsm := hold 12 (by kernel_rfl)
                have f6 : s 6 = .bool true := hnew 45 6 (by kernel_rfl)
                have f52 : s 52 = .bool nsm := hnew 0 52 (by kernel_rfl)
                have f53 : s 53 = vv k0 n0 s0 := hnew 1 53 (by kernel_rfl)
                have f54 : s 54 = vv k1 n1 s1 := hnew 2 54 (by kernel_rfl)
                have f55 : s 55 = .bool nsm := hnew 3 55 (by kernel_rfl)
                have f56 : s 56 = .bool true := hnew 4 56 (by kernel_rfl)
                have f57 : s 57 = .bool true := hnew 5 57 (by kernel_rfl)
                have f58 : s 58 = vv k0 n0 s0 := hnew 6 58 (by kernel_rfl)
                have f59 : s 59 = vv k1 n1 s1 := hnew 7 59 (by kernel_rfl)
                have f60 : s 60 = .bool true := hnew 8 60 (by kernel_rfl)
                have f61 : s 61 = .bool false := hnew 9 61 (by kernel_rfl)
                have f62 : s 62 = .bool false := hnew 10 62 (by kernel_rfl)
                have f63 : s 63 = vv k1 n1 s1 := hnew 11 63 (by kernel_rfl)
                have f64 : s 64 = vv k2 n2 s2 := hnew 12 64 (by kernel_rfl)
                have f65 : s 65 = .bool false := hnew 13 65 (by kernel_rfl)
                have f66 : s 66 = .bool true := hnew 14 66 (by kernel_rfl)
                have f67 : s 67 = .bool true := hnew 15 67 (by kernel_rfl)
                have f68 : s 68 = .bool true := hnew 16 68 (by kernel_rfl)
                have f72 : s 72 = .bool true := hnew 20 72 (by kernel_rfl)
                have f73 : s 73 = .bool true := hnew 21 73 (by kernel_rfl)
                have f74 : s 74 = .bool true := hnew 22 74 (by kernel_rfl)
                have f75 : s 75 = vv k0 n0 s0 := hnew 23 75 (by kernel_rfl)
                have f76 : s 76 = .string t0 := hnew 24 76 (by kernel_rfl)
                have f77 : s 77 = vv k1 n1 s1 := hnew 25 77 (by kernel_rfl)
                have f78 : s 78 = .string t1 := hnew 26 78 (by kernel_rfl)
                have f79 : s 79 = .bool sm := hnew 27 79 (by kernel_rfl)
                have f80 : s 80 = vv k0 n0 s0 := hnew 28 80 (by kernel_rfl)
                have f81 : s 81 = vv k1 n1 s1 := hnew 29 81 (by kernel_rfl)
                have f82 : s 82 = .bool sm := hnew 30 82 (by kernel_rfl)
                have f83 : s 83 = .bool true := hnew 31 83 (by kernel_rfl)
                have f84 : s 84 = .bool true := hnew 32 84 (by kernel_rfl)
                have f85 : s 85 = .bool true := hnew 33 85 (by kernel_rfl)
                have f86 : s 86 = vv k0 n0 s0 := hnew 34 86 (by kernel_rfl)
                have f87 : s 87 = vv k0 n0 s0 := hnew 35 87 (by kernel_rfl)
                have f88 : s 88 = .bool true := hnew 36 88 (by kernel_rfl)
                have f89 : s 89 = .bool true := hnew 37 89 (by kernel_rfl)
                have f90 : s 90 = .bool true := hnew 38 90 (by kernel_rfl)
                have f91 : s 91 = .int .i64 0 := hnew 39 91 (by kernel_rfl)
                have f92 : s 92 = .bool true := hnew 40 92 (by kernel_rfl)
                have f93 : s 93 = .bool true := hnew 41 93 (by kernel_rfl)
                have f94 : s 94 = .bool true := hnew 42 94 (by kernel_rfl)
                have f95 : s 95 = .bool true := hnew 43 95 (by kernel_rfl)
                have f96 : s 96 = .bool true := hnew 44 96 (by kernel_rfl)
                change Exit.then _ _ .normal ⟨#[s 0, s 1, s 2, s 3, s 4, s 5, s 6, s 7, s 8, s 9, s 10, s 11, s 12, s 13, s 14, s 15, s 16, s 17, s 18, s 19, s 20, s 21, s 22, s 23, s 24, s 25, s 26, s 27, s 28, s 29, s 30, s 31, s 32, s 33, s 34, s 35, s 36, s 37, s 38, s 39, s 40, s 41, s 42, s 43, s 44, s 45, s 46, s 47, s 48, s 49, s 50, s 51, s 52, s 53, s 54, s 55, s 56, s 57, s 58, s 59, s 60, s 61, s 62, s 63, s 64, s 65, s 66, s 67, s 68, s 69, s 70, s 71, s 72, s 73, s 74, s 75, s 76, s 77, s 78, s 79, s 80, s 81, s 82, s 83, s 84, s 85, s 86, s 87, s 88, s 89, s 90, s 91, s 92, s 93, s 94, s 95, s 96], _⟩ _
                simp only [f3, f4, f5, f9, f10, f11, f12, f6, f52, f53, f54, f55, f56, f57, f58, f59, f60, f61, f62, f63, f64, f65, f66, f67, f68, f72, f73, f74, f75, f76, f77, f78, f79, f80, f81, f82, f83, f84, f85, f86, f87, f88, f89, f90, f91, f92, f93, f94, f95, f96]
                clear hold hnew
                go_wp2
                go_ret
                exact ⟨rfl, (E9.trans hEr).trans hEs⟩
            · replace hc := hc rfl rfl
              refine wp_region_slots hmix [fun v _ => v = .bool nsm, fun v _ => v = vv k0 n0 s0, fun v _ => v = vv k1 n1 s1, fun v _ => v = .bool nsm, fun v _ => v = .bool true, fun v _ => v = .bool true, fun v _ => v = vv k0 n0 s0, fun v _ => v = vv k1 n1 s1, fun v _ => v = .bool true, fun v _ => v = .bool false, fun v _ => v = .bool false, fun v _ => v = vv k1 n1 s1, fun v _ => v = vv k2 n2 s2, fun v _ => v = .bool true, fun v _ => v = .bool false, fun v _ => v = .bool false, fun v _ => v = .bool false, fun v _ => v = vv k0 n0 s0, fun v _ => v = vv k2 n2 s2, fun v _ => v = .bool true, fun v _ => v = .bool true, fun v _ => v = .bool true, fun v _ => v = .bool true, fun v _ => v = vv k0 n0 s0, fun v _ => v = .string t0, fun v _ => v = vv k1 n1 s1, fun v _ => v = .string t1, fun v _ => v = .bool sm, fun v _ => v = vv k0 n0 s0, fun v _ => v = vv k1 n1 s1, fun v _ => v = .bool sm, fun v _ => v = .bool true, fun v _ => v = .bool true, fun v _ => v = .bool true, fun v _ => v = vv k0 n0 s0, fun v _ => v = vv k0 n0 s0, fun v _ => v = .bool true, fun v _ => v = .bool true, fun v _ => v = .bool true, fun v _ => v = .int .i64 0, fun v _ => v = .bool true, fun v _ => v = .bool true, fun v _ => v = .bool true, fun v _ => v = .bool true, fun v _ => v = .bool true, fun v _ => v = .bool true]
                97 rfl (by kernel_rfl) ⟨mono_eq _, mono_eq _, mono_eq _, mono_eq _, mono_eq _, mono_eq _, mono_eq _, mono_eq _, mono_eq _, mono_eq _, mono_eq _, mono_eq _, mono_eq _, mono_eq _, mono_eq _, mono_eq _, mono_eq _, mono_eq _, mono_eq _, mono_eq _, mono_eq _, mono_eq _, mono_eq _, mono_eq _, mono_eq _, mono_eq _, mono_eq _, mono_eq _, mono_eq _, mono_eq _, mono_eq _, mono_eq _, mono_eq _, mono_eq _, mono_eq _, mono_eq _, mono_eq _, mono_eq _, mono_eq _, mono_eq _, mono_eq _, mono_eq _, mono_eq _, mono_eq _, mono_eq _, mono_eq _, trivial⟩ ?_ ?_
              · refine ops_cons 0 ?_ (ops_cons 1 ?_ (ops_cons 2 ?_ (ops_cons 3 ?_ (ops_cons 4 ?_ (ops_cons 5 ?_ (ops_cons 6 ?_ (ops_cons 7 ?_ (ops_cons 8 ?_ (ops_cons 9 ?_ (ops_cons 10 ?_ (ops_cons 11 ?_ (ops_cons 12 ?_ (ops_cons 13 ?_ (ops_cons 14 ?_ (ops_cons 15 ?_ (ops_cons 16 ?_ (ops_cons 17 ?_ (ops_cons 18 ?_ (ops_cons 19 ?_ (ops_cons 20 ?_ (ops_cons 21 ?_ (ops_cons 22 ?_ (ops_cons 23 ?_ (ops_cons 24 ?_ (ops_cons 25 ?_ (ops_cons 26 ?_ (ops_cons 27 ?_ (ops_cons 28 ?_ (ops_cons 29 ?_ (ops_cons 30 ?_ (ops_cons 31 ?_ (ops_cons 32 ?_ (ops_cons 33 ?_ (ops_cons 34 ?_ (ops_cons 35 ?_ (ops_cons 36 ?_ (ops_cons 37 ?_ (ops_cons 38 ?_ (ops_cons 39 ?_ (ops_cons 40 ?_ (ops_cons 41 ?_ (ops_cons 42 ?_ (ops_cons 43 ?_ (ops_cons 44 ?_ (ops_cons 45 ?_ (ops_nil 46))))))))))))))))))))))))))))))))))))))))))))))
                · refine op_value fun a w c => ⟨(wanted_plain rfl), _, run_move _ rfl w, (c.was 12 (by kernel_rfl) rfl)⟩
                · refine op_value fun a w c => ⟨(wanted_plain rfl), _, run_load_val rfl ((c.was 3 (by kernel_rfl) rfl) : a.eval (.tmp 3) = .pointer (some ⟨H, 0, none⟩)) (B10.ev c.ev), rfl⟩
                · refine op_value fun a w c => ⟨(wanted_plain rfl), _, run_load_val rfl ((c.was 4 (by kernel_rfl) rfl) : a.eval (.tmp 4) = .pointer (some ⟨H + 1, 0, none⟩)) (B10b.ev c.ev), rfl⟩
                · refine op_value fun a w c => ⟨(wanted_plain rfl), _, op_neq_val rfl ((c.new 1 53 (by kernel_rfl) (by kernel_rfl)) : a.eval (.tmp 53) = vv k0 n0 s0) ((c.new 2 54 (by kernel_rfl) (by kernel_rfl)) : a.eval (.tmp 54) = vv k1 n1 s1), congrArg Value.bool hnm⟩
                · refine op_value fun a w c => ⟨(wanted_plain rfl), .bool true, ?_, rfl⟩
                  have e52 : a.eval (.tmp 52) = .bool nsm := (c.new 0 52 (by kernel_rfl) (by kernel_rfl))
                  have e55 : a.eval (.tmp 55) = .bool nsm := (c.new 3 55 (by kernel_rfl) (by kernel_rfl))
                  generalize a.eval = ρ at e52 e55 ⊢
                  simp [execOp, e52, e55, go_sem]
                · refine op_value fun a w c => ⟨(wanted_plain rfl), _, run_move _ rfl w, (c.new 4 56 (by kernel_rfl) (by kernel_rfl))⟩
                · refine op_value fun a w c => ⟨(wanted_yes rfl (by kernel_rfl) (c.new 5 57 (by kernel_rfl) (by kernel_rfl))), _, run_load_val rfl ((c.was 3 (by kernel_rfl) rfl) : a.eval (.tmp 3) = .pointer (some ⟨H, 0, none⟩)) (B10.ev c.ev), rfl⟩
                · refine op_value fun a w c => ⟨(wanted_yes rfl (by kernel_rfl) (c.new 5 57 (by kernel_rfl) (by kernel_rfl))), _, run_load_val rfl ((c.was 4 (by kernel_rfl) rfl) : a.eval (.tmp 4) = .pointer (some ⟨H + 1, 0, none⟩)) (B10b.ev c.ev), rfl⟩
                · refine op_call fun a w c => ⟨(wanted_yes rfl (by kernel_rfl) (c.new 5 57 (by kernel_rfl) (by kernel_rfl))), 15, #[vv k0 n0 s0, vv k1 n1 s1], ?_, ?_⟩
                  · rw [run_call 15 _ _ rfl (by kernel_rfl)]
                    have e58 : a.eval (.tmp 58) = vv k0 n0 s0 := (c.new 6 58 (by kernel_rfl) (by kernel_rfl))
                    have e59 : a.eval (.tmp 59) = vv k1 n1 s1 := (c.new 7 59 (by kernel_rfl) (by kernel_rfl))
                    simp [e58, e59]
                  · refine (value_less _ _ _ _ _ _ w).mono ?_
                    rintro e w2 ⟨rfl, hE⟩
                    exact ⟨_, rfl, hE, congrArg Value.bool hx⟩
                · refine op_value fun a w c => ⟨(wanted_yes rfl (by kernel_rfl) (c.new 5 57 (by kernel_rfl) (by kernel_rfl))), .bool false, ?_, rfl⟩
                  have e60 : a.eval (.tmp 60) = .bool true := (c.new 8 60 (by kernel_rfl) (by kernel_rfl))
                  generalize a.eval = ρ at e60 ⊢
                  simp [execOp, e60, go_sem]
                · refine op_value fun a w c => ⟨(wanted_yes rfl (by kernel_rfl) (c.new 5 57 (by kernel_rfl) (by kernel_rfl))), _, run_move _ rfl w, (c.new 9 61 (by kernel_rfl) (by kernel_rfl))⟩
                · refine op_value fun a w c => ⟨(wanted_yes rfl (by kernel_rfl) (c.new 10 62 (by kernel_rfl) (by kernel_rfl))), _, run_load_val rfl ((c.was 4 (by kernel_rfl) rfl) : a.eval (.tmp 4) = .pointer (some ⟨H + 1, 0, none⟩)) (B10b.ev c.ev), rfl⟩
                · refine op_value fun a w c => ⟨(wanted_yes rfl (by kernel_rfl) (c.new 10 62 (by kernel_rfl) (by kernel_rfl))), _, run_load_val rfl ((c.was 5 (by kernel_rfl) rfl) : a.eval (.tmp 5) = .pointer (some ⟨H + 1 + 1, 0, none⟩)) (B10c.ev c.ev), rfl⟩
                · refine op_call fun a w c => ⟨(wanted_yes rfl (by kernel_rfl) (c.new 10 62 (by kernel_rfl) (by kernel_rfl))), 15, #[vv k1 n1 s1, vv k2 n2 s2], ?_, ?_⟩
                  · rw [run_call 15 _ _ rfl (by kernel_rfl)]
                    have e63 : a.eval (.tmp 63) = vv k1 n1 s1 := (c.new 11 63 (by kernel_rfl) (by kernel_rfl))
                    have e64 : a.eval (.tmp 64) = vv k2 n2 s2 := (c.new 12 64 (by kernel_rfl) (by kernel_rfl))
                    simp [e63, e64]
                  · refine (value_less _ _ _ _ _ _ w).mono ?_
                    rintro e w2 ⟨rfl, hE⟩
                    exact ⟨_, rfl, hE, congrArg Value.bool hb⟩
                · refine op_value fun a w c => ⟨(wanted_yes rfl (by kernel_rfl) (c.new 10 62 (by kernel_rfl) (by kernel_rfl))), .bool false, ?_, rfl⟩
                  have e65 : a.eval (.tmp 65) = .bool true := (c.new 13 65 (by kernel_rfl) (by kernel_rfl))
                  generalize a.eval = ρ at e65 ⊢
                  simp [execOp, e65, go_sem]
                · refine op_value fun a w c => ⟨(wanted_yes rfl (by kernel_rfl) (c.new 5 57 (by kernel_rfl) (by kernel_rfl))), _, run_pick_false rfl (c.new 10 62 (by kernel_rfl) (by kernel_rfl)) w, (c.new 14 66 (by kernel_rfl) (by kernel_rfl))⟩
                · refine op_value fun a w c => ⟨(wanted_yes rfl (by kernel_rfl) (c.new 5 57 (by kernel_rfl) (by kernel_rfl))), _, run_move _ rfl w, (c.new 15 67 (by kernel_rfl) (by kernel_rfl))⟩
                · refine op_value fun a w c => ⟨(wanted_yes rfl (by kernel_rfl) (c.new 16 68 (by kernel_rfl) (by kernel_rfl))), _, run_load_val rfl ((c.was 3 (by kernel_rfl) rfl) : a.eval (.tmp 3) = .pointer (some ⟨H, 0, none⟩)) (B10.ev c.ev), rfl⟩
                · refine op_value fun a w c => ⟨(wanted_yes rfl (by kernel_rfl) (c.new 16 68 (by kernel_rfl) (by kernel_rfl))), _, run_load_val rfl ((c.was 5 (by kernel_rfl) rfl) : a.eval (.tmp 5) = .pointer (some ⟨H + 1 + 1, 0, none⟩)) (B10c.ev c.ev), rfl⟩
                · refine op_call fun a w c => ⟨(wanted_yes rfl (by kernel_rfl) (c.new 16 68 (by kernel_rfl) (by kernel_rfl))), 15, #[vv k0 n0 s0, vv k2 n2 s2], ?_, ?_⟩
                  · rw [run_call 15 _ _ rfl (by kernel_rfl)]
                    have e69 : a.eval (.tmp 69) = vv k0 n0 s0 := (c.new 17 69 (by kernel_rfl) (by kernel_rfl))
                    have e70 : a.eval (.tmp 70) = vv k2 n2 s2 := (c.new 18 70 (by kernel_rfl) (by kernel_rfl))
                    simp [e69, e70]
                  · refine (value_less _ _ _ _ _ _ w).mono ?_
                    rintro e w2 ⟨rfl, hE⟩
                    exact ⟨_, rfl, hE, congrArg Value.bool hc⟩
                · refine op_value fun a w c => ⟨(wanted_yes rfl (by kernel_rfl) (c.new 5 57 (by kernel_rfl) (by kernel_rfl))), _, run_pick_false rfl (c.new 16 68 (by kernel_rfl) (by kernel_rfl)) w, (c.new 19 71 (by kernel_rfl) (by kernel_rfl))⟩
                · refine op_value fun a w c => ⟨(wanted_plain rfl), _, run_pick_true rfl (c.new 5 57 (by kernel_rfl) (by kernel_rfl)) w, (c.new 20 72 (by kernel_rfl) (by kernel_rfl))⟩
                · refine op_value fun a w c => ⟨(wanted_plain rfl), _, run_move _ rfl w, (c.new 21 73 (by kernel_rfl) (by kernel_rfl))⟩
                · refine op_value fun a w c => ⟨(wanted_yes rfl (by kernel_rfl) (c.new 22 74 (by kernel_rfl) (by kernel_rfl))), _, run_load_val rfl ((c.was 3 (by kernel_rfl) rfl) : a.eval (.tmp 3) = .pointer (some ⟨H, 0, none⟩)) (B10.ev c.ev), rfl⟩
                · refine op_call fun a w c => ⟨(wanted_yes rfl (by kernel_rfl) (c.new 22 74 (by kernel_rfl) (by kernel_rfl))), 12, #[vv k0 n0 s0], ?_, ?_⟩
                  · rw [run_call 12 _ _ rfl (by kernel_rfl)]
                    have e75 : a.eval (.tmp 75) = vv k0 n0 s0 := (c.new 23 75 (by kernel_rfl) (by kernel_rfl))
                    simp [e75]
                  · refine (value_show _ _ _ w (hT10.ev c.ev) hn0.1 hn0.2).mono ?_
                    rintro e w2 ⟨rfl, hE⟩
                    exact ⟨_, rfl, hE, congrArg Value.string ht0⟩
                · refine op_value fun a w c => ⟨(wanted_yes rfl (by kernel_rfl) (c.new 22 74 (by kernel_rfl) (by kernel_rfl))), _, run_load_val rfl ((c.was 4 (by kernel_rfl) rfl) : a.eval (.tmp 4) = .pointer (some ⟨H + 1, 0, none⟩)) (B10b.ev c.ev), rfl⟩
                · refine op_call fun a w c => ⟨(wanted_yes rfl (by kernel_rfl) (c.new 22 74 (by kernel_rfl) (by kernel_rfl))), 12, #[vv k1 n1 s1], ?_, ?_⟩
                  · rw [run_call 12 _ _ rfl (by kernel_rfl)]
                    have e77 : a.eval (.tmp 77) = vv k1 n1 s1 := (c.new 25 77 (by kernel_rfl) (by kernel_rfl))
                    simp [e77]
                  · refine (value_show _ _ _ w (hT10.ev c.ev) hn1.1 hn1.2).mono ?_
                    rintro e w2 ⟨rfl, hE⟩
                    exact ⟨_, rfl, hE, congrArg Value.string ht1⟩
                · refine op_value fun a w c => ⟨(wanted_yes rfl (by kernel_rfl) (c.new 22 74 (by kernel_rfl) (by kernel_rfl))), .bool sm, ?_, rfl⟩
                  have e76 : a.eval (.tmp 76) = .string t0 := (c.new 24 76 (by kernel_rfl) (by kernel_rfl))
                  have e78 : a.eval (.tmp 78) = .string t1 := (c.new 26 78 (by kernel_rfl) (by kernel_rfl))
                  generalize a.eval = ρ at e76 e78 ⊢
                  simp [execOp, e76, e78, go_sem, hsh]
                · refine op_value fun a w c => ⟨(wanted_yes rfl (by kernel_rfl) (c.new 22 74 (by kernel_rfl) (by kernel_rfl))), _, run_load_val rfl ((c.was 3 (by kernel_rfl) rfl) : a.eval (.tmp 3) = .pointer (some ⟨H, 0, none⟩)) (B10.ev c.ev), rfl⟩
                · refine op_value fun a w c => ⟨(wanted_yes rfl (by kernel_rfl) (c.new 22 74 (by kernel_rfl) (by kernel_rfl))), _, run_load_val rfl ((c.was 4 (by kernel_rfl) rfl) : a.eval (.tmp 4) = .pointer (some ⟨H + 1, 0, none⟩)) (B10b.ev c.ev), rfl⟩
                · refine op_value fun a w c => ⟨(wanted_yes rfl (by kernel_rfl) (c.new 22 74 (by kernel_rfl) (by kernel_rfl))), _, op_eq_val rfl ((c.new 28 80 (by kernel_rfl) (by kernel_rfl)) : a.eval (.tmp 80) = vv k0 n0 s0) ((c.new 29 81 (by kernel_rfl) (by kernel_rfl)) : a.eval (.tmp 81) = vv k1 n1 s1), congrArg Value.bool hsm⟩
                · refine op_value fun a w c => ⟨(wanted_yes rfl (by kernel_rfl) (c.new 22 74 (by kernel_rfl) (by kernel_rfl))), .bool true, ?_, rfl⟩
                  have e79 : a.eval (.tmp 79) = .bool sm := (c.new 27 79 (by kernel_rfl) (by kernel_rfl))
                  have e82 : a.eval (.tmp 82) = .bool sm := (c.new 30 82 (by kernel_rfl) (by kernel_rfl))
                  generalize a.eval = ρ at e79 e82 ⊢
                  simp [execOp, e79, e82, go_sem]
                · refine op_value fun a w c => ⟨(wanted_plain rfl), _, run_pick_true rfl (c.new 22 74 (by kernel_rfl) (by kernel_rfl)) w, (c.new 31 83 (by kernel_rfl) (by kernel_rfl))⟩
                · refine op_value fun a w c => ⟨(wanted_plain rfl), _, run_move _ rfl w, (c.new 32 84 (by kernel_rfl) (by kernel_rfl))⟩
                · refine op_value fun a w c => ⟨(wanted_yes rfl (by kernel_rfl) (c.new 33 85 (by kernel_rfl) (by kernel_rfl))), _, run_load_val rfl ((c.was 9 (by kernel_rfl) rfl) : a.eval (.tmp 9) = .pointer (some ⟨g, 0, none⟩)) (BX10.ev c.ev), rfl⟩
                · refine op_value fun a w c => ⟨(wanted_yes rfl (by kernel_rfl) (c.new 33 85 (by kernel_rfl) (by kernel_rfl))), _, run_load_val rfl ((c.was 3 (by kernel_rfl) rfl) : a.eval (.tmp 3) = .pointer (some ⟨H, 0, none⟩)) (B10.ev c.ev), rfl⟩
                · refine op_value fun a w c => ⟨(wanted_yes rfl (by kernel_rfl) (c.new 33 85 (by kernel_rfl) (by kernel_rfl))), _, op_eq_val rfl ((c.new 34 86 (by kernel_rfl) (by kernel_rfl)) : a.eval (.tmp 86) = vv k0 n0 s0) ((c.new 35 87 (by kernel_rfl) (by kernel_rfl)) : a.eval (.tmp 87) = vv k0 n0 s0), congrArg Value.bool (sameV_self _ _ _)⟩
                · refine op_value fun a w c => ⟨(wanted_plain rfl), _, run_pick_true rfl (c.new 33 85 (by kernel_rfl) (by kernel_rfl)) w, (c.new 36 88 (by kernel_rfl) (by kernel_rfl))⟩
                · refine op_value fun a w c => ⟨(wanted_plain rfl), _, run_move _ rfl w, (c.new 37 89 (by kernel_rfl) (by kernel_rfl))⟩
                · refine op_value fun a w c => ⟨(wanted_yes rfl (by kernel_rfl) (c.new 38 90 (by kernel_rfl) (by kernel_rfl))), _, run_move _ rfl w, (c.was 10 (by kernel_rfl) rfl)⟩
                · refine op_value fun a w c => ⟨(wanted_yes rfl (by kernel_rfl) (c.new 38 90 (by kernel_rfl) (by kernel_rfl))), .bool true, ?_, rfl⟩
                  have e91 : a.eval (.tmp 91) = .int .i64 0 := (c.new 39 91 (by kernel_rfl) (by kernel_rfl))
                  have kc0 : a.eval (.const (.int .i64 0)) = .int .i64 0 := rfl
                  generalize a.eval = ρ at e91 kc0 ⊢
                  simp [execOp, e91, kc0, go_sem]
                · refine op_value fun a w c => ⟨(wanted_plain rfl), _, run_pick_true rfl (c.new 38 90 (by kernel_rfl) (by kernel_rfl)) w, (c.new 40 92 (by kernel_rfl) (by kernel_rfl))⟩
                · refine op_value fun a w c => ⟨(wanted_plain rfl), _, run_move _ rfl w, (c.new 41 93 (by kernel_rfl) (by kernel_rfl))⟩
                · refine op_call fun a w c => ⟨(wanted_yes rfl (by kernel_rfl) (c.new 42 94 (by kernel_rfl) (by kernel_rfl))), 16, #[], ?_, ?_⟩
                  · rw [run_call 16 _ _ rfl (by kernel_rfl)]
                    simp
                  · refine (known_any w (hT10.ev c.ev)).mono ?_
                    rintro e w2 ⟨rfl, hE⟩
                    exact ⟨_, rfl, hE, rfl⟩
                · refine op_value fun a w c => ⟨(wanted_plain rfl), _, run_pick_true rfl (c.new 42 94 (by kernel_rfl) (by kernel_rfl)) w, (c.new 43 95 (by kernel_rfl) (by kernel_rfl))⟩
                · refine op_value fun a w c => ⟨(wanted_plain rfl), _, run_assign _ rfl w, (c.new 44 96 (by kernel_rfl) (by kernel_rfl))⟩
              · intro s w11 hEs hold hnew
                have f3 : s 3 = .pointer (some ⟨H, 0, none⟩) := hold 3 (by kernel_rfl)
                have f4 : s 4 = .pointer (some ⟨H + 1, 0, none⟩) := hold 4 (by kernel_rfl)
                have f5 : s 5 = .pointer (some ⟨H + 1 + 1, 0, none⟩) := hold 5 (by kernel_rfl)
                have f9 : s 9 = .pointer (some ⟨g, 0, none⟩) := hold 9 (by kernel_rfl)
                have f10 : s 10 = .int .i64 0 := hold 10 (by kernel_rfl)
                have f11 : s 11 = .int .i64 0 := hold 11 (by kernel_rfl)
                have f12 : s 12 = .bool nsm := hold 12 (by kernel_rfl)
                have f6 : s 6 = .bool true := hnew 45 6 (by kernel_rfl)
                have f52 : s 52 = .bool nsm := hnew 0 52 (by kernel_rfl)
                have f53 : s 53 = vv k0 n0 s0 := hnew 1 53 (by kernel_rfl)
                have f54 : s 54 = vv k1 n1 s1 := hnew 2 54 (by kernel_rfl)
                have f55 : s 55 = .bool nsm := hnew 3 55 (by kernel_rfl)
                have f56 : s 56 = .bool true := hnew 4 56 (by kernel_rfl)
                have f57 : s 57 = .bool true := hnew 5 57 (by kernel_rfl)
                have f58 : s 58 = vv k0 n0 s0 := hnew 6 58 (by kernel_rfl)
                have f59 : s 59 = vv k1 n1 s1 := hnew 7 59 (by kernel_rfl)
                have f60 : s 60 = .bool true := hnew 8 60 (by kernel_rfl)
                have f61 : s 61 = .bool false := hnew 9 61 (by kernel_rfl)
                have f62 : s 62 = .bool false := hnew 10 62 (by kernel_rfl)
                have f63 : s 63 = vv k1 n1 s1 := hnew 11 63 (by kernel_rfl)
                have f64 : s 64 = vv k2 n2 s2 := hnew 12 64 (by kernel_rfl)
                have f65 : s 65 = .bool true := hnew 13 65 (by kernel_rfl)
                have f66 : s 66 = .bool false := hnew 14 66 (by kernel_rfl)
                have f67 : s 67 = .bool false := hnew 15 67 (by kernel_rfl)
                have f68 : s 68 = .bool false := hnew 16 68 (by kernel_rfl)
                have f69 : s 69 = vv k0 n0 s0 := hnew 17 69 (by kernel_rfl)
                have f70 : s 70 = vv k2 n2 s2 := hnew 18 70 (by kernel_rfl)
                have f71 : s 71 = .bool true := hnew 19 71 (by kernel_rfl)
                have f72 : s 72 = .bool true := hnew 20 72 (by kernel_rfl)
                have f73 : s 73 = .bool true := hnew 21 73 (by kernel_rfl)
                have f74 : s 74 = .bool true := hnew 22 74 (by kernel_rfl)
                have f75 : s 75 = vv k0 n0 s0 := hnew 23 75 (by kernel_rfl)
                have f76 : s 76 = .string t0 := hnew 24 76 (by kernel_rfl)
                have f77 : s 77 = vv k1 n1 s1 := hnew 25 77 (by kernel_rfl)
                have f78 : s 78 = .string t1 := hnew 26 78 (by kernel_rfl)
                have f79 : s 79 = .bool sm := hnew 27 79 (by kernel_rfl)
                have f80 : s 80 = vv k0 n0 s0 := hnew 28 80 (by kernel_rfl)
                have f81 : s 81 = vv k1 n1 s1 := hnew 29 81 (by kernel_rfl)
                have f82 : s 82 = .bool sm := hnew 30 82 (by kernel_rfl)
                have f83 : s 83 = .bool true := hnew 31 83 (by kernel_rfl)
                have f84 : s 84 = .bool true := hnew 32 84 (by kernel_rfl)
                have f85 : s 85 = .bool true := hnew 33 85 (by kernel_rfl)
                have f86 : s 86 = vv k0 n0 s0 := hnew 34 86 (by kernel_rfl)
                have f87 : s 87 = vv k0 n0 s0 := hnew 35 87 (by kernel_rfl)
                have f88 : s 88 = .bool true := hnew 36 88 (by kernel_rfl)
                have f89 : s 89 = .bool true := hnew 37 89 (by kernel_rfl)
                have f90 : s 90 = .bool true := hnew 38 90 (by kernel_rfl)
                have f91 : s 91 = .int .i64 0 := hnew 39 91 (by kernel_rfl)
                have f92 : s 92 = .bool true := hnew 40 92 (by kernel_rfl)
                have f93 : s 93 = .bool true := hnew 41 93 (by kernel_rfl)
                have f94 : s 94 = .bool true := hnew 42 94 (by kernel_rfl)
                have f95 : s 95 = .bool true := hnew 43 95 (by kernel_rfl)
                have f96 : s 96 = .bool true := hnew 44 96 (by kernel_rfl)
                change Exit.then _ _ .normal ⟨#[s 0, s 1, s 2, s 3, s 4, s 5, s 6, s 7, s 8, s 9, s 10, s 11, s 12, s 13, s 14, s 15, s 16, s 17, s 18, s 19, s 20, s 21, s 22, s 23, s 24, s 25, s 26, s 27, s 28, s 29, s 30, s 31, s 32, s 33, s 34, s 35, s 36, s 37, s 38, s 39, s 40, s 41, s 42, s 43, s 44, s 45, s 46, s 47, s 48, s 49, s 50, s 51, s 52, s 53, s 54, s 55, s 56, s 57, s 58, s 59, s 60, s 61, s 62, s 63, s 64, s 65, s 66, s 67, s 68, s 69, s 70, s 71, s 72, s 73, s 74, s 75, s 76, s 77, s 78, s 79, s 80, s 81, s 82, s 83, s 84, s 85, s 86, s 87, s 88, s 89, s 90, s 91, s 92, s 93, s 94, s 95, s 96], _⟩ _
                simp only [f3, f4, f5, f9, f10, f11, f12, f6, f52, f53, f54, f55, f56, f57, f58, f59, f60, f61, f62, f63, f64, f65, f66, f67, f68, f69, f70, f71, f72, f73, f74, f75, f76, f77, f78, f79, f80, f81, f82, f83, f84, f85, f86, f87, f88, f89, f90, f91, f92, f93, f94, f95, f96]
                clear hold hnew
                go_wp2
                go_ret
                exact ⟨rfl, (E9.trans hEr).trans hEs⟩
end Go.Proofs.YtdakcljjmbhbgaaDoor
