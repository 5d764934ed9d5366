/-
  The walk of ValueTells.
-/
import Derived.Test.YtdakcljjmbhbgaaDoorVo
import Derived.Test.YtdakcljjmbhbgaaDoorRefW
import Derived.Test.YtdakcljjmbhbgaaDoorRefGt
import Derived.Test.YtdakcljjmbhbgaaDoorRefS
import Derived.Test.YtdakcljjmbhbgaaDoorRegion
import Derived.Deep.DeepCutAuto
namespace Go.Proofs.YtdakcljjmbhbgaaDoor
open Go.RowKit
set_option linter.unusedVariables false

/-- The document's Reader, newly made over the bytes. -/
theorem Rqs.new {A : Option Addr} {n cap : Nat} {X : List UInt8} {w : World} (hB : Bs w A n cap X) (hA : ∀ ad, A = some ad → ad.block < w.heap.size) (hs : n ≤ 140737488355328) :
    Rqs w.heap.size A n cap X 0 0 (w.alloc (.cells #[.slice A n cap, .int .i64 0, .bool false, .int .i64 0, .int .i64 0] 43)) :=
  ⟨0, false, 0, 0, heap_alloc_new w _, ⟨fun _ => ⟨rfl, rfl⟩, fun h => absurd rfl h⟩, hB.below (Ev.alloc w _), fun ad e => ⟨by have := hA ad e; omega, by have := hA ad e; simp; omega⟩, Nat.zero_le _, hs⟩

set_option maxRecDepth 100000 in
set_option maxHeartbeats 8000000 in
theorem vt_walk (k0 n0 : Int) (s0 : ByteArray) (k1 n1 : Int) (s1 : ByteArray) (A2 : Option Addr) (n2 cap2 : Nat) (l2 : List UInt8) (x3 : Int) (s4 : ByteArray) (w : World) (hT : Tab w)
    (hn0 : -9223372036854775808 ≤ n0 ∧ n0 ≤ 9223372036854775807) (hz0 : s0.size ≤ maxLen) (h2 : Bs w A2 n2 cap2 l2) (hz2 : n2 ≤ 140737488351232) :
    Calls Tryd.prog 4 #[vv k0 n0 s0, vv k1 n1 s1, .slice A2 n2 cap2, .int .i64 x3, .string s4] w fun e w' => e = .returned (.bool true) ∧ Ev w w' := by
  obtain ⟨w0, hw0, B0, B0b, hE0⟩ := Boxed.two k0 n0 s0 k1 n1 s1 w
  go_enter Tryd.func4, Tryd.ntmps4
  go_upto_if 24 with fail
  go_cut [10] (fun v wx => ∃ s : ByteArray, v = .bool false ∧ s.size ≤ 100 ∧ Boxed w.heap.size k0 n0 s wx ∧ Boxed (w.heap.size + 1) k1 n1 s1 wx ∧ Ev w wx)
  case first =>
    by_cases hs : (s0.size : Int) > 100
    · have hx : (s0.extract 0 100).size ≤ 100 := by
        rw [Lib.extract_eq]
        show (List.take (100 - 0) _).length ≤ 100
        rw [List.length_take]
        omega
      obtain ⟨wa, hwa, C0, C0b, hEa⟩ := Boxed.two k0 n0 (s0.extract 0 100) k1 n1 s1 w
      go_wp2_with fail
      go_meet
      rw [← hwa]
      exact ⟨_, rfl, hx, C0, C0b, hEa⟩
    · go_wp2_with fail
      go_meet
      rw [← hw0]
      exact ⟨s0, rfl, by omega, B0, B0b, hE0⟩
  case rest =>
    obtain ⟨s, rfl, hs, B, Bb, hE⟩ := hcut
    have hH1 := B.lt
    have hH2 := Bb.lt
    have hTc := hT.ev hE
    have hBc := h2.below hE
    clear hw0 B0 B0b hE0 hT h2 hz0
    obtain ⟨L, hL⟩ : ∃ L, putV k0 n0 s = L := ⟨_, rfl⟩
    have hLl : L.length ≤ 109 := by rw [← hL]; have := putV_length k0 n0 s; omega
    obtain ⟨X, hX⟩ : ∃ X, L ++ l2 = X := ⟨_, rfl⟩
    have hl2 := hBc.len
    have hXl : X.length ≤ 140737488355328 := by rw [← hX, List.length_append]; omega
    have HP := fun p w (h : Wr p (.slice none 0 0) [] w) => value_put p (.slice none 0 0) [] k0 n0 s w h (by simp; omega)
    have HRP := fun w => ref_put k0 n0 s w hn0.1 hn0.2 (by omega)
    rw [hL] at HP HRP
    simp only [List.nil_append] at HP
    have HP := Lib.hid HP
    have HRP := Lib.hid HRP
    have HN := Lib.hid (fun A cap w (h : Bs w A X.length cap X) => new_reader A X.length cap X w h hXl)
    have HG := fun p A cap w (h : Rd p A X.length cap X 0 0 w) => value_get w h
    have HGr := fun p A cap w (h : Rqs p A X.length cap X 0 0 w) => refr_get w h
    generalize rdVal X 0 0 = V at *
    obtain ⟨⟨K, N, SX⟩, e, q⟩ := V
    simp only at HG HGr
    have HEnd := fun p A cap w (h : Rd p A X.length cap X e q w) => reader_end w h
    have HEndr := fun p A cap w (h : Rqs p A X.length cap X e q w) => ref_end w h
    generalize rdEnd X e q = D at *
    obtain ⟨e2, q2⟩ := D
    simp only at HEnd HEndr
    have HG := Lib.hid HG; have HGr := Lib.hid HGr; have HEnd := Lib.hid HEnd; have HEndr := Lib.hid HEndr
    have HNW := Lib.hid (fun w => new_writer2 w)
    have HB2 := Lib.hid hBc
    have HLX := Lib.hid hX
    have HLA := Lib.hid (show L.length + l2.length ≤ 140737488355328 by omega)
    clear hX hl2 hBc hL
    have hmix : Tryd.prog.follows .mixedOrders = true := by kernel_rfl
    have c0 := B.c0; have c1 := B.c1; have c2 := B.c2
    go_wp2_with (first
      | ((with_reducible refine (HNW.out wc).mono ?_); rintro y w4 ⟨rfl, hW4, hE4⟩; have B4 := B.ev hE4; have c0 := B4.c0; have c1 := B4.c1; have c2 := B4.c2)
      | ((with_reducible refine (HP.out _ w4 hW4).mono ?_); rintro y w5 ⟨rfl, v5, hW5, hT5⟩; have E5 : Ev wc w5 := Wrote.fresh hE4 (Nat.le_refl _) hT5; have B5 := B.ev E5; have c0 := B5.c0; have c1 := B5.c1; have c2 := B5.c2)
      | ((with_reducible refine (HRP.out w5).mono ?_); rintro y w6 ⟨v6, rfl, hR6, hg6, hE6⟩; obtain ⟨A6, m6, cap6, rfl⟩ := hR6.form; have HB6 := Lib.hid (HB2.out.below (E5.trans hE6)))
      | (at_builtin; refine wpList_append_row rfl (.tmp 36) (.tmp 37) rfl Tryd.underlying22 Tryd.infoU8 (.slice A6 m6 cap6) L rfl hR6 A2 n2 cap2 l2 rfl HB6.out HLA.out ?_; intro v7 w7 hr7 hb7 hs7; rw [HLX.out] at hr7; have E7 : Ev w5 w7 := hE6.rows hg6 hb7; have hlt7 : ∀ g, v7.ownBlock = some g → g < w7.heap.size := (fun g h => hr7.lt h); obtain ⟨A7, cap7, rfl, hB7, hA7, _⟩ := hr7.bs; have E07 := E5.trans E7)
      | ((with_reducible refine (HN.out _ _ w7 hB7).mono ?_); rintro y w8 ⟨p8, A8, cap8, rfl, hR8, hp8, hA8, hE8⟩; have hAlt : ∀ ad, A7 = some ad → ad.block < w7.heap.size := (fun ad h => hlt7 _ (hA7 ad h)); have hAlt8 : ∀ ad, A7 = some ad → ad.block < w8.heap.size := (fun ad h => Nat.lt_of_lt_of_le (hAlt ad h) hE8.size); have hQ9 := Rqs.new (hB7.below hE8) hAlt8 hXl; have hR9 := hR8.ev (Ev.alloc w8 (.cells #[.slice A7 X.length cap7, .int .i64 0, .bool false, .int .i64 0, .int .i64 0] 43)); have hp8l := hR8.lt)
      | ((with_reducible refine (HG.out _ _ _ _ hR9).mono ?_); rintro y w10 ⟨rfl, hR10, hB10⟩; have hQ10 := hQ9.but hB10 (by simp; omega) (fun ad h => by have := hAlt ad h; simp; omega); have F8 := E7.trans hE8; have F10 : Ev w5 w10 := (((But.of_ev (K := []) (F8.trans (Ev.alloc _ _))).trans hB10 (fun x hx => .inr (by have := E7.size; simp at hx; omega))).ev (by simp)); have hs10 : w8.heap.size < w10.heap.size := (by have := hB10.size; simp at this; omega); obtain ⟨wu, hwu⟩ : ∃ wu, wu = w10.alloc (.cells #[.int .i64 K, .int .i64 N, .string ⟨SX.toArray⟩] 26) := ⟨_, rfl⟩; have hEu : Ev w10 wu := hwu ▸ Ev.alloc w10 _; have hQu := hQ10.ev hEu; have hRu := hR10.ev hEu; have BU : Boxed w10.heap.size K N ⟨SX.toArray⟩ wu := hwu ▸ Boxed.new K N ⟨SX.toArray⟩ w10)
      | (rw [← hwu]; (with_reducible refine (HGr.out _ _ _ wu hQu).mono ?_); rintro y w11 ⟨rfl, hQ11, hB11⟩; have hR11 := hRu.but hB11 (by simp; omega) (fun ad h => by have := hA8 ad h; simp; omega); have BU11 := BU.but hB11 (by simp; omega); have F11 : Ev w5 w11 := (((But.of_ev (K := []) (F10.trans hEu)).trans hB11 (fun x hx => .inr (by have := F8.size; simp at hx; omega))).ev (by simp)); obtain ⟨wv, hwv⟩ : ∃ wv, wv = w11.alloc (.cells #[.int .i64 K, .int .i64 N, .string ⟨SX.toArray⟩] 26) := ⟨_, rfl⟩; have hEv : Ev w11 wv := hwv ▸ Ev.alloc w11 _; have hQv := hQ11.ev hEv; have hRv := hR11.ev hEv; have BUv := BU11.ev hEv; have BV : Boxed w11.heap.size K N ⟨SX.toArray⟩ wv := hwv ▸ Boxed.new K N ⟨SX.toArray⟩ w11)
      | (rw [← hwv]; (with_reducible refine (HEnd.out _ _ _ wv hRv).mono ?_); rintro y w13 ⟨rfl, hq⟩; have hE13 := Ev.of_drewN hq; have hQ13 := hQv.ev hE13; clear hq)
      | ((with_reducible refine (HEndr.out _ _ _ w13 hQ13).mono ?_); rintro y w14 ⟨rfl, hE14⟩; have G14 := (hEv.trans hE13).trans hE14; have F14 := F11.trans G14; have BU14 := BU11.ev G14; have BV14 := (BV.ev hE13).ev hE14; have E14 := E5.trans F14; have B14 := B.ev E14; have B14b := Bb.ev E14; have hT14 := hTc.ev E14; have hW14 := hW5.ev F14)
      | fail)
    clear c0 c1 c2 hwu hwv hAlt hAlt8 hlt7 hA7 hB10 hB11 hT5 hr7 hb7 hs7 hA8 hg6
    generalize w10.heap.size = gu at *
    generalize w11.heap.size = gv at *
    generalize wc.heap.size = pw at *
    generalize w.heap.size = H at *
    obtain ⟨r, hr⟩ : ∃ r, rightV k0 n0 s = r := ⟨_, rfl⟩
    obtain ⟨ls, hl⟩ : ∃ r, lessV k0 n0 s k1 n1 s1 = r := ⟨_, rfl⟩
    obtain ⟨t, ht⟩ : ∃ t : ByteArray, (⟨(showV k0 n0 s).toArray⟩ : ByteArray) = t := ⟨_, rfl⟩
    refine wp_region_slots hmix [fun v _ => v = vv k0 n0 s, fun v _ => v = .bool r, fun v _ => v = vv k0 n0 s, fun v _ => v = .bool r, fun v _ => v = .bool true, fun v _ => v = .bool true, fun v _ => v = vv k0 n0 s, fun v _ => v = vv k1 n1 s1, fun v _ => v = .bool ls, fun v _ => v = vv k0 n0 s, fun v _ => v = vv k1 n1 s1, fun v _ => v = .bool ls, fun v _ => v = .bool true, fun v _ => v = .bool true, fun v _ => v = .bool true, fun v _ => v = vv k0 n0 s, fun v _ => v = .string t, fun v _ => v = vv k0 n0 s, fun v _ => v = .string t, fun v _ => v = .bool true, fun v _ => v = .bool true, fun v _ => v = .bool true, fun v _ => v = .pointer (some ⟨pw, 0, none⟩), Holds (L), fun v _ => v = .string ⟨(L).toArray⟩, fun v _ => v = vv k0 n0 s, Holds (L), fun v _ => v = .string ⟨(L).toArray⟩, fun v _ => v = .bool true, fun v _ => v = .bool true, fun v _ => v = .bool true, fun v _ => v = vv K N ⟨SX.toArray⟩, fun v _ => v = vv K N ⟨SX.toArray⟩, fun v _ => v = .bool true, fun v _ => v = .bool true, fun v _ => v = .bool true, fun v _ => v = .int .i64 (e2 : Int), fun v _ => v = .int .i64 (e2 : Int), fun v _ => v = .bool true, fun v _ => v = .bool true, fun v _ => v = .bool true, fun v _ => v = .int .i64 (q2 : Int), fun v _ => v = .int .i64 (q2 : Int), fun v _ => v = .bool true, fun v _ => v = .bool true, fun v _ => v = .bool true, fun v _ => v = .int .i64 x3, fun v _ => v = vv 1 x3 ⟨#[]⟩, fun v _ => v = .int .i64 x3, fun v _ => v = vv 1 x3 ⟨#[]⟩, fun v _ => v = .bool true, fun v _ => v = .bool true, fun v _ => v = .bool true, fun v _ => v = .string s4, fun v _ => v = vv 2 0 s4, fun v _ => v = .string s4, fun v _ => v = vv 2 0 s4, fun v _ => v = .bool true, fun v _ => v = .bool true, fun v _ => v = .bool true, fun v _ => v = .bool true, fun v _ => v = .bool true, fun v _ => v = .bool true]
      122 rfl (by kernel_rfl) ⟨mono_eq _, mono_eq _, mono_eq _, mono_eq _, mono_eq _, mono_eq _, mono_eq _, mono_eq _, mono_eq _, mono_eq _, mono_eq _, mono_eq _, mono_eq _, mono_eq _, mono_eq _, mono_eq _, mono_eq _, mono_eq _, mono_eq _, mono_eq _, mono_eq _, mono_eq _, mono_eq _, Holds.mono _, mono_eq _, mono_eq _, Holds.mono _, mono_eq _, mono_eq _, mono_eq _, mono_eq _, mono_eq _, mono_eq _, mono_eq _, mono_eq _, mono_eq _, mono_eq _, mono_eq _, mono_eq _, mono_eq _, mono_eq _, mono_eq _, mono_eq _, mono_eq _, mono_eq _, mono_eq _, mono_eq _, mono_eq _, mono_eq _, mono_eq _, mono_eq _, mono_eq _, mono_eq _, mono_eq _, mono_eq _, mono_eq _, mono_eq _, mono_eq _, mono_eq _, mono_eq _, mono_eq _, mono_eq _, mono_eq _, trivial⟩ ?_ ?_
    · refine ops_cons 0 ?_ (ops_cons 1 ?_ (ops_cons 2 ?_ (ops_cons 3 ?_ (ops_cons 4 ?_ (ops_cons 5 ?_ (ops_cons 6 ?_ (ops_cons 7 ?_ (ops_cons 8 ?_ (ops_cons 9 ?_ (ops_cons 10 ?_ (ops_cons 11 ?_ (ops_cons 12 ?_ (ops_cons 13 ?_ (ops_cons 14 ?_ (ops_cons 15 ?_ (ops_cons 16 ?_ (ops_cons 17 ?_ (ops_cons 18 ?_ (ops_cons 19 ?_ (ops_cons 20 ?_ (ops_cons 21 ?_ (ops_cons 22 ?_ (ops_cons 23 ?_ (ops_cons 24 ?_ (ops_cons 25 ?_ (ops_cons 26 ?_ (ops_cons 27 ?_ (ops_cons 28 ?_ (ops_cons 29 ?_ (ops_cons 30 ?_ (ops_cons 31 ?_ (ops_cons 32 ?_ (ops_cons 33 ?_ (ops_cons 34 ?_ (ops_cons 35 ?_ (ops_cons 36 ?_ (ops_cons 37 ?_ (ops_cons 38 ?_ (ops_cons 39 ?_ (ops_cons 40 ?_ (ops_cons 41 ?_ (ops_cons 42 ?_ (ops_cons 43 ?_ (ops_cons 44 ?_ (ops_cons 45 ?_ (ops_cons 46 ?_ (ops_cons 47 ?_ (ops_cons 48 ?_ (ops_cons 49 ?_ (ops_cons 50 ?_ (ops_cons 51 ?_ (ops_cons 52 ?_ (ops_cons 53 ?_ (ops_cons 54 ?_ (ops_cons 55 ?_ (ops_cons 56 ?_ (ops_cons 57 ?_ (ops_cons 58 ?_ (ops_cons 59 ?_ (ops_cons 60 ?_ (ops_cons 61 ?_ (ops_cons 62 ?_ (ops_nil 63)))))))))))))))))))))))))))))))))))))))))))))))))))))))))))))))
      · refine op_value fun a w c => ⟨(wanted_plain rfl), _, run_load_val rfl ((c.was 5 (by kernel_rfl) rfl) : a.eval (.tmp 5) = .pointer (some ⟨H, 0, none⟩)) (B14.ev c.ev), rfl⟩
      · refine op_call fun a w c => ⟨(wanted_plain rfl), 14, #[vv k0 n0 s], ?_, ?_⟩
        · rw [run_call 14 _ _ rfl (by kernel_rfl)]
          have e60 : a.eval (.tmp 60) = vv k0 n0 s := (c.new 0 60 (by kernel_rfl) (by kernel_rfl))
          simp [e60]
        · refine (value_right _ _ _ w).mono ?_
          rintro e w2 ⟨rfl, hE⟩
          exact ⟨_, rfl, hE, congrArg Value.bool hr⟩
      · refine op_value fun a w c => ⟨(wanted_plain rfl), _, run_load_val rfl ((c.was 5 (by kernel_rfl) rfl) : a.eval (.tmp 5) = .pointer (some ⟨H, 0, none⟩)) (B14.ev c.ev), rfl⟩
      · refine op_call fun a w c => ⟨(wanted_plain rfl), 21, #[vv k0 n0 s], ?_, ?_⟩
        · rw [run_call 21 _ _ rfl (by kernel_rfl)]
          have e62 : a.eval (.tmp 62) = vv k0 n0 s := (c.new 2 62 (by kernel_rfl) (by kernel_rfl))
          simp [e62]
        · refine (refr_right _ _ _ w).mono ?_
          rintro e w2 ⟨rfl, hE⟩
          exact ⟨_, rfl, hE, congrArg Value.bool hr⟩
      · refine op_value fun a w c => ⟨(wanted_plain rfl), .bool true, ?_, rfl⟩
        have e61 : a.eval (.tmp 61) = .bool r := (c.new 1 61 (by kernel_rfl) (by kernel_rfl))
        have e63 : a.eval (.tmp 63) = .bool r := (c.new 3 63 (by kernel_rfl) (by kernel_rfl))
        generalize a.eval = ρ at e61 e63 ⊢
        simp [execOp, e61, e63, go_sem]
      · refine op_value fun a w c => ⟨(wanted_plain rfl), _, run_move _ rfl w, (c.new 4 64 (by kernel_rfl) (by kernel_rfl))⟩
      · refine op_value fun a w c => ⟨(wanted_yes rfl (by kernel_rfl) (c.new 5 65 (by kernel_rfl) (by kernel_rfl))), _, run_load_val rfl ((c.was 5 (by kernel_rfl) rfl) : a.eval (.tmp 5) = .pointer (some ⟨H, 0, none⟩)) (B14.ev c.ev), rfl⟩
      · refine op_value fun a w c => ⟨(wanted_yes rfl (by kernel_rfl) (c.new 5 65 (by kernel_rfl) (by kernel_rfl))), _, run_load_val rfl ((c.was 6 (by kernel_rfl) rfl) : a.eval (.tmp 6) = .pointer (some ⟨H + 1, 0, none⟩)) (B14b.ev c.ev), rfl⟩
      · refine op_call fun a w c => ⟨(wanted_yes rfl (by kernel_rfl) (c.new 5 65 (by kernel_rfl) (by kernel_rfl))), 15, #[vv k0 n0 s, vv k1 n1 s1], ?_, ?_⟩
        · rw [run_call 15 _ _ rfl (by kernel_rfl)]
          have e66 : a.eval (.tmp 66) = vv k0 n0 s := (c.new 6 66 (by kernel_rfl) (by kernel_rfl))
          have e67 : a.eval (.tmp 67) = vv k1 n1 s1 := (c.new 7 67 (by kernel_rfl) (by kernel_rfl))
          simp [e66, e67]
        · refine (value_less _ _ _ _ _ _ w).mono ?_
          rintro e w2 ⟨rfl, hE⟩
          exact ⟨_, rfl, hE, congrArg Value.bool hl⟩
      · refine op_value fun a w c => ⟨(wanted_yes rfl (by kernel_rfl) (c.new 5 65 (by kernel_rfl) (by kernel_rfl))), _, run_load_val rfl ((c.was 5 (by kernel_rfl) rfl) : a.eval (.tmp 5) = .pointer (some ⟨H, 0, none⟩)) (B14.ev c.ev), rfl⟩
      · refine op_value fun a w c => ⟨(wanted_yes rfl (by kernel_rfl) (c.new 5 65 (by kernel_rfl) (by kernel_rfl))), _, run_load_val rfl ((c.was 6 (by kernel_rfl) rfl) : a.eval (.tmp 6) = .pointer (some ⟨H + 1, 0, none⟩)) (B14b.ev c.ev), rfl⟩
      · refine op_call fun a w c => ⟨(wanted_yes rfl (by kernel_rfl) (c.new 5 65 (by kernel_rfl) (by kernel_rfl))), 22, #[vv k0 n0 s, vv k1 n1 s1], ?_, ?_⟩
        · rw [run_call 22 _ _ rfl (by kernel_rfl)]
          have e69 : a.eval (.tmp 69) = vv k0 n0 s := (c.new 9 69 (by kernel_rfl) (by kernel_rfl))
          have e70 : a.eval (.tmp 70) = vv k1 n1 s1 := (c.new 10 70 (by kernel_rfl) (by kernel_rfl))
          simp [e69, e70]
        · refine (refr_less _ _ _ _ _ _ w).mono ?_
          rintro e w2 ⟨rfl, hE⟩
          exact ⟨_, rfl, hE, congrArg Value.bool hl⟩
      · refine op_value fun a w c => ⟨(wanted_yes rfl (by kernel_rfl) (c.new 5 65 (by kernel_rfl) (by kernel_rfl))), .bool true, ?_, rfl⟩
        have e68 : a.eval (.tmp 68) = .bool ls := (c.new 8 68 (by kernel_rfl) (by kernel_rfl))
        have e71 : a.eval (.tmp 71) = .bool ls := (c.new 11 71 (by kernel_rfl) (by kernel_rfl))
        generalize a.eval = ρ at e68 e71 ⊢
        simp [execOp, e68, e71, go_sem]
      · refine op_value fun a w c => ⟨(wanted_plain rfl), _, run_pick_true rfl (c.new 5 65 (by kernel_rfl) (by kernel_rfl)) w, (c.new 12 72 (by kernel_rfl) (by kernel_rfl))⟩
      · refine op_value fun a w c => ⟨(wanted_plain rfl), _, run_move _ rfl w, (c.new 13 73 (by kernel_rfl) (by kernel_rfl))⟩
      · refine op_value fun a w c => ⟨(wanted_yes rfl (by kernel_rfl) (c.new 14 74 (by kernel_rfl) (by kernel_rfl))), _, run_load_val rfl ((c.was 5 (by kernel_rfl) rfl) : a.eval (.tmp 5) = .pointer (some ⟨H, 0, none⟩)) (B14.ev c.ev), rfl⟩
      · refine op_call fun a w c => ⟨(wanted_yes rfl (by kernel_rfl) (c.new 14 74 (by kernel_rfl) (by kernel_rfl))), 12, #[vv k0 n0 s], ?_, ?_⟩
        · rw [run_call 12 _ _ rfl (by kernel_rfl)]
          have e75 : a.eval (.tmp 75) = vv k0 n0 s := (c.new 15 75 (by kernel_rfl) (by kernel_rfl))
          simp [e75]
        · refine (value_show _ _ _ w (hT14.ev c.ev) hn0.1 hn0.2).mono ?_
          rintro e w2 ⟨rfl, hE⟩
          exact ⟨_, rfl, hE, congrArg Value.string ht⟩
      · refine op_value fun a w c => ⟨(wanted_yes rfl (by kernel_rfl) (c.new 14 74 (by kernel_rfl) (by kernel_rfl))), _, run_load_val rfl ((c.was 5 (by kernel_rfl) rfl) : a.eval (.tmp 5) = .pointer (some ⟨H, 0, none⟩)) (B14.ev c.ev), rfl⟩
      · refine op_call fun a w c => ⟨(wanted_yes rfl (by kernel_rfl) (c.new 14 74 (by kernel_rfl) (by kernel_rfl))), 23, #[vv k0 n0 s], ?_, ?_⟩
        · rw [run_call 23 _ _ rfl (by kernel_rfl)]
          have e77 : a.eval (.tmp 77) = vv k0 n0 s := (c.new 17 77 (by kernel_rfl) (by kernel_rfl))
          simp [e77]
        · refine (refr_show _ _ _ w hn0.1 hn0.2).mono ?_
          rintro e w2 ⟨rfl, hE⟩
          exact ⟨_, rfl, hE, congrArg Value.string ht⟩
      · refine op_value fun a w c => ⟨(wanted_yes rfl (by kernel_rfl) (c.new 14 74 (by kernel_rfl) (by kernel_rfl))), .bool true, ?_, rfl⟩
        have e76 : a.eval (.tmp 76) = .string t := (c.new 16 76 (by kernel_rfl) (by kernel_rfl))
        have e78 : a.eval (.tmp 78) = .string t := (c.new 18 78 (by kernel_rfl) (by kernel_rfl))
        generalize a.eval = ρ at e76 e78 ⊢
        simp [execOp, e76, e78, go_sem]
      · refine op_value fun a w c => ⟨(wanted_plain rfl), _, run_pick_true rfl (c.new 14 74 (by kernel_rfl) (by kernel_rfl)) w, (c.new 19 79 (by kernel_rfl) (by kernel_rfl))⟩
      · refine op_value fun a w c => ⟨(wanted_plain rfl), _, run_move _ rfl w, (c.new 20 80 (by kernel_rfl) (by kernel_rfl))⟩
      · refine op_value fun a w c => ⟨(wanted_yes rfl (by kernel_rfl) (c.new 21 81 (by kernel_rfl) (by kernel_rfl))), _, run_move _ rfl w, (c.was 11 (by kernel_rfl) rfl)⟩
      · refine op_call fun a w c => ⟨(wanted_yes rfl (by kernel_rfl) (c.new 21 81 (by kernel_rfl) (by kernel_rfl))), 24, #[.pointer (some ⟨pw, 0, none⟩)], ?_, ?_⟩
        · rw [run_call 24 _ _ rfl (by kernel_rfl)]
          have e82 : a.eval (.tmp 82) = .pointer (some ⟨pw, 0, none⟩) := (c.new 22 82 (by kernel_rfl) (by kernel_rfl))
          simp [e82]
        · refine (writer_done _ _ _ w (hW14.ev c.ev) (Nat.le_trans hLl (by decide))).mono ?_
          rintro e w2 ⟨A_, cap_, rfl, hB_, _, hE⟩
          exact ⟨_, rfl, hE, ⟨A_, _, cap_, rfl, hB_⟩⟩
      · refine op_value fun a w c => ⟨(wanted_yes rfl (by kernel_rfl) (c.new 21 81 (by kernel_rfl) (by kernel_rfl))), _, run_str rfl Tryd.underlying22 Tryd.underlying5 Tryd.underlying9 rfl ((c.new 23 83 (by kernel_rfl) (by kernel_rfl)) : Holds (L) _ _), rfl⟩
      · refine op_value fun a w c => ⟨(wanted_yes rfl (by kernel_rfl) (c.new 21 81 (by kernel_rfl) (by kernel_rfl))), _, run_load_val rfl ((c.was 5 (by kernel_rfl) rfl) : a.eval (.tmp 5) = .pointer (some ⟨H, 0, none⟩)) (B14.ev c.ev), rfl⟩
      · refine op_call fun a w c => ⟨(wanted_yes rfl (by kernel_rfl) (c.new 21 81 (by kernel_rfl) (by kernel_rfl))), 18, #[.slice none 0 0, vv k0 n0 s], ?_, ?_⟩
        · rw [run_call 18 _ _ rfl (by kernel_rfl)]
          have e85 : a.eval (.tmp 85) = vv k0 n0 s := (c.new 25 85 (by kernel_rfl) (by kernel_rfl))
          simp [e85, evc]
        · refine (HRP.out w).mono ?_
          rintro e w2 ⟨v_, rfl, hR_, _, hE⟩
          obtain ⟨A_, cap_, rfl, hB_, _⟩ := hR_.bs
          exact ⟨_, rfl, hE, ⟨A_, _, cap_, rfl, hB_⟩⟩
      · refine op_value fun a w c => ⟨(wanted_yes rfl (by kernel_rfl) (c.new 21 81 (by kernel_rfl) (by kernel_rfl))), _, run_str rfl Tryd.underlying22 Tryd.underlying5 Tryd.underlying9 rfl ((c.new 26 86 (by kernel_rfl) (by kernel_rfl)) : Holds (L) _ _), rfl⟩
      · refine op_value fun a w c => ⟨(wanted_yes rfl (by kernel_rfl) (c.new 21 81 (by kernel_rfl) (by kernel_rfl))), .bool true, ?_, rfl⟩
        have e84 : a.eval (.tmp 84) = .string ⟨(L).toArray⟩ := (c.new 24 84 (by kernel_rfl) (by kernel_rfl))
        have e87 : a.eval (.tmp 87) = .string ⟨(L).toArray⟩ := (c.new 27 87 (by kernel_rfl) (by kernel_rfl))
        generalize a.eval = ρ at e84 e87 ⊢
        simp [execOp, e84, e87, go_sem]
      · refine op_value fun a w c => ⟨(wanted_plain rfl), _, run_pick_true rfl (c.new 21 81 (by kernel_rfl) (by kernel_rfl)) w, (c.new 28 88 (by kernel_rfl) (by kernel_rfl))⟩
      · refine op_value fun a w c => ⟨(wanted_plain rfl), _, run_move _ rfl w, (c.new 29 89 (by kernel_rfl) (by kernel_rfl))⟩
      · refine op_value fun a w c => ⟨(wanted_yes rfl (by kernel_rfl) (c.new 30 90 (by kernel_rfl) (by kernel_rfl))), _, run_load_val rfl ((c.was 15 (by kernel_rfl) rfl) : a.eval (.tmp 15) = .pointer (some ⟨gu, 0, none⟩)) (BU14.ev c.ev), rfl⟩
      · refine op_value fun a w c => ⟨(wanted_yes rfl (by kernel_rfl) (c.new 30 90 (by kernel_rfl) (by kernel_rfl))), _, run_load_val rfl ((c.was 16 (by kernel_rfl) rfl) : a.eval (.tmp 16) = .pointer (some ⟨gv, 0, none⟩)) (BV14.ev c.ev), rfl⟩
      · refine op_value fun a w c => ⟨(wanted_yes rfl (by kernel_rfl) (c.new 30 90 (by kernel_rfl) (by kernel_rfl))), _, op_eq_val rfl ((c.new 31 91 (by kernel_rfl) (by kernel_rfl)) : a.eval (.tmp 91) = vv K N ⟨SX.toArray⟩) ((c.new 32 92 (by kernel_rfl) (by kernel_rfl)) : a.eval (.tmp 92) = vv K N ⟨SX.toArray⟩), congrArg Value.bool (sameV_self _ _ _)⟩
      · refine op_value fun a w c => ⟨(wanted_plain rfl), _, run_pick_true rfl (c.new 30 90 (by kernel_rfl) (by kernel_rfl)) w, (c.new 33 93 (by kernel_rfl) (by kernel_rfl))⟩
      · refine op_value fun a w c => ⟨(wanted_plain rfl), _, run_move _ rfl w, (c.new 34 94 (by kernel_rfl) (by kernel_rfl))⟩
      · refine op_value fun a w c => ⟨(wanted_yes rfl (by kernel_rfl) (c.new 35 95 (by kernel_rfl) (by kernel_rfl))), _, run_move _ rfl w, (c.was 17 (by kernel_rfl) rfl)⟩
      · refine op_value fun a w c => ⟨(wanted_yes rfl (by kernel_rfl) (c.new 35 95 (by kernel_rfl) (by kernel_rfl))), _, run_move _ rfl w, (c.was 19 (by kernel_rfl) rfl)⟩
      · refine op_value fun a w c => ⟨(wanted_yes rfl (by kernel_rfl) (c.new 35 95 (by kernel_rfl) (by kernel_rfl))), .bool true, ?_, rfl⟩
        have e96 : a.eval (.tmp 96) = .int .i64 (e2 : Int) := (c.new 36 96 (by kernel_rfl) (by kernel_rfl))
        have e97 : a.eval (.tmp 97) = .int .i64 (e2 : Int) := (c.new 37 97 (by kernel_rfl) (by kernel_rfl))
        generalize a.eval = ρ at e96 e97 ⊢
        simp [execOp, e96, e97, go_sem]
      · refine op_value fun a w c => ⟨(wanted_plain rfl), _, run_pick_true rfl (c.new 35 95 (by kernel_rfl) (by kernel_rfl)) w, (c.new 38 98 (by kernel_rfl) (by kernel_rfl))⟩
      · refine op_value fun a w c => ⟨(wanted_plain rfl), _, run_move _ rfl w, (c.new 39 99 (by kernel_rfl) (by kernel_rfl))⟩
      · refine op_value fun a w c => ⟨(wanted_yes rfl (by kernel_rfl) (c.new 40 100 (by kernel_rfl) (by kernel_rfl))), _, run_move _ rfl w, (c.was 18 (by kernel_rfl) rfl)⟩
      · refine op_value fun a w c => ⟨(wanted_yes rfl (by kernel_rfl) (c.new 40 100 (by kernel_rfl) (by kernel_rfl))), _, run_move _ rfl w, (c.was 20 (by kernel_rfl) rfl)⟩
      · refine op_value fun a w c => ⟨(wanted_yes rfl (by kernel_rfl) (c.new 40 100 (by kernel_rfl) (by kernel_rfl))), .bool true, ?_, rfl⟩
        have e101 : a.eval (.tmp 101) = .int .i64 (q2 : Int) := (c.new 41 101 (by kernel_rfl) (by kernel_rfl))
        have e102 : a.eval (.tmp 102) = .int .i64 (q2 : Int) := (c.new 42 102 (by kernel_rfl) (by kernel_rfl))
        generalize a.eval = ρ at e101 e102 ⊢
        simp [execOp, e101, e102, go_sem]
      · refine op_value fun a w c => ⟨(wanted_plain rfl), _, run_pick_true rfl (c.new 40 100 (by kernel_rfl) (by kernel_rfl)) w, (c.new 43 103 (by kernel_rfl) (by kernel_rfl))⟩
      · refine op_value fun a w c => ⟨(wanted_plain rfl), _, run_move _ rfl w, (c.new 44 104 (by kernel_rfl) (by kernel_rfl))⟩
      · refine op_value fun a w c => ⟨(wanted_yes rfl (by kernel_rfl) (c.new 45 105 (by kernel_rfl) (by kernel_rfl))), _, run_move _ rfl w, (c.was 3 (by kernel_rfl) rfl)⟩
      · refine op_call fun a w c => ⟨(wanted_yes rfl (by kernel_rfl) (c.new 45 105 (by kernel_rfl) (by kernel_rfl))), 11, #[.int .i64 x3], ?_, ?_⟩
        · rw [run_call 11 _ _ rfl (by kernel_rfl)]
          have e106 : a.eval (.tmp 106) = .int .i64 x3 := (c.new 46 106 (by kernel_rfl) (by kernel_rfl))
          simp [e106]
        · refine (value_num _ w).mono ?_
          rintro e w2 ⟨rfl, hE⟩
          exact ⟨_, rfl, hE, rfl⟩
      · refine op_value fun a w c => ⟨(wanted_yes rfl (by kernel_rfl) (c.new 45 105 (by kernel_rfl) (by kernel_rfl))), _, run_move _ rfl w, (c.was 3 (by kernel_rfl) rfl)⟩
      · refine op_value fun a w c => ⟨(wanted_yes rfl (by kernel_rfl) (c.new 45 105 (by kernel_rfl) (by kernel_rfl))), vv 1 x3 ⟨#[]⟩, ?_, rfl⟩
        have e108 : a.eval (.tmp 108) = .int .i64 x3 := (c.new 48 108 (by kernel_rfl) (by kernel_rfl))
        have kc0 : a.eval (.const (.int .i64 1)) = .int .i64 1 := rfl
        generalize a.eval = ρ at e108 kc0 ⊢
        simp [execOp, e108, kc0, go_sem]
      · refine op_value fun a w c => ⟨(wanted_yes rfl (by kernel_rfl) (c.new 45 105 (by kernel_rfl) (by kernel_rfl))), _, op_eq_val rfl ((c.new 47 107 (by kernel_rfl) (by kernel_rfl)) : a.eval (.tmp 107) = vv 1 x3 ⟨#[]⟩) ((c.new 49 109 (by kernel_rfl) (by kernel_rfl)) : a.eval (.tmp 109) = vv 1 x3 ⟨#[]⟩), congrArg Value.bool (sameV_self _ _ _)⟩
      · refine op_value fun a w c => ⟨(wanted_plain rfl), _, run_pick_true rfl (c.new 45 105 (by kernel_rfl) (by kernel_rfl)) w, (c.new 50 110 (by kernel_rfl) (by kernel_rfl))⟩
      · refine op_value fun a w c => ⟨(wanted_plain rfl), _, run_move _ rfl w, (c.new 51 111 (by kernel_rfl) (by kernel_rfl))⟩
      · refine op_value fun a w c => ⟨(wanted_yes rfl (by kernel_rfl) (c.new 52 112 (by kernel_rfl) (by kernel_rfl))), _, run_move _ rfl w, (c.was 4 (by kernel_rfl) rfl)⟩
      · refine op_call fun a w c => ⟨(wanted_yes rfl (by kernel_rfl) (c.new 52 112 (by kernel_rfl) (by kernel_rfl))), 13, #[.string s4], ?_, ?_⟩
        · rw [run_call 13 _ _ rfl (by kernel_rfl)]
          have e113 : a.eval (.tmp 113) = .string s4 := (c.new 53 113 (by kernel_rfl) (by kernel_rfl))
          simp [e113]
        · refine (value_str _ w).mono ?_
          rintro e w2 ⟨rfl, hE⟩
          exact ⟨_, rfl, hE, rfl⟩
      · refine op_value fun a w c => ⟨(wanted_yes rfl (by kernel_rfl) (c.new 52 112 (by kernel_rfl) (by kernel_rfl))), _, run_move _ rfl w, (c.was 4 (by kernel_rfl) rfl)⟩
      · refine op_value fun a w c => ⟨(wanted_yes rfl (by kernel_rfl) (c.new 52 112 (by kernel_rfl) (by kernel_rfl))), vv 2 0 s4, ?_, rfl⟩
        have e115 : a.eval (.tmp 115) = .string s4 := (c.new 55 115 (by kernel_rfl) (by kernel_rfl))
        have kc0 : a.eval (.const (.int .i64 2)) = .int .i64 2 := rfl
        generalize a.eval = ρ at e115 kc0 ⊢
        simp [execOp, e115, kc0, go_sem]
      · refine op_value fun a w c => ⟨(wanted_yes rfl (by kernel_rfl) (c.new 52 112 (by kernel_rfl) (by kernel_rfl))), _, op_eq_val rfl ((c.new 54 114 (by kernel_rfl) (by kernel_rfl)) : a.eval (.tmp 114) = vv 2 0 s4) ((c.new 56 116 (by kernel_rfl) (by kernel_rfl)) : a.eval (.tmp 116) = vv 2 0 s4), congrArg Value.bool (sameV_self _ _ _)⟩
      · refine op_value fun a w c => ⟨(wanted_plain rfl), _, run_pick_true rfl (c.new 52 112 (by kernel_rfl) (by kernel_rfl)) w, (c.new 57 117 (by kernel_rfl) (by kernel_rfl))⟩
      · refine op_value fun a w c => ⟨(wanted_plain rfl), _, run_move _ rfl w, (c.new 58 118 (by kernel_rfl) (by kernel_rfl))⟩
      · refine op_call fun a w c => ⟨(wanted_yes rfl (by kernel_rfl) (c.new 59 119 (by kernel_rfl) (by kernel_rfl))), 16, #[], ?_, ?_⟩
        · rw [run_call 16 _ _ rfl (by kernel_rfl)]
          simp
        · refine (known_any w (hT14.ev c.ev)).mono ?_
          rintro e w2 ⟨rfl, hE⟩
          exact ⟨_, rfl, hE, rfl⟩
      · refine op_value fun a w c => ⟨(wanted_plain rfl), _, run_pick_true rfl (c.new 59 119 (by kernel_rfl) (by kernel_rfl)) w, (c.new 60 120 (by kernel_rfl) (by kernel_rfl))⟩
      · refine op_value fun a w c => ⟨(wanted_plain rfl), _, run_assign _ rfl w, (c.new 61 121 (by kernel_rfl) (by kernel_rfl))⟩
    · intro s_ w15 hEr hold hnew
      have f3 : s_ 3 = .int .i64 x3 := hold 3 (by kernel_rfl)
      have f4 : s_ 4 = .string s4 := hold 4 (by kernel_rfl)
      have f5 : s_ 5 = .pointer (some ⟨H, 0, none⟩) := hold 5 (by kernel_rfl)
      have f6 : s_ 6 = .pointer (some ⟨H + 1, 0, none⟩) := hold 6 (by kernel_rfl)
      have f11 : s_ 11 = .pointer (some ⟨pw, 0, none⟩) := hold 11 (by kernel_rfl)
      have f15 : s_ 15 = .pointer (some ⟨gu, 0, none⟩) := hold 15 (by kernel_rfl)
      have f16 : s_ 16 = .pointer (some ⟨gv, 0, none⟩) := hold 16 (by kernel_rfl)
      have f17 : s_ 17 = .int .i64 (e2 : Int) := hold 17 (by kernel_rfl)
      have f18 : s_ 18 = .int .i64 (q2 : Int) := hold 18 (by kernel_rfl)
      have f19 : s_ 19 = .int .i64 (e2 : Int) := hold 19 (by kernel_rfl)
      have f20 : s_ 20 = .int .i64 (q2 : Int) := hold 20 (by kernel_rfl)
      have f10 : s_ 10 = .bool true := hnew 62 10 (by kernel_rfl)
      have f60 : s_ 60 = vv k0 n0 s := hnew 0 60 (by kernel_rfl)
      have f61 : s_ 61 = .bool r := hnew 1 61 (by kernel_rfl)
      have f62 : s_ 62 = vv k0 n0 s := hnew 2 62 (by kernel_rfl)
      have f63 : s_ 63 = .bool r := hnew 3 63 (by kernel_rfl)
      have f64 : s_ 64 = .bool true := hnew 4 64 (by kernel_rfl)
      have f65 : s_ 65 = .bool true := hnew 5 65 (by kernel_rfl)
      have f66 : s_ 66 = vv k0 n0 s := hnew 6 66 (by kernel_rfl)
      have f67 : s_ 67 = vv k1 n1 s1 := hnew 7 67 (by kernel_rfl)
      have f68 : s_ 68 = .bool ls := hnew 8 68 (by kernel_rfl)
      have f69 : s_ 69 = vv k0 n0 s := hnew 9 69 (by kernel_rfl)
      have f70 : s_ 70 = vv k1 n1 s1 := hnew 10 70 (by kernel_rfl)
      have f71 : s_ 71 = .bool ls := hnew 11 71 (by kernel_rfl)
      have f72 : s_ 72 = .bool true := hnew 12 72 (by kernel_rfl)
      have f73 : s_ 73 = .bool true := hnew 13 73 (by kernel_rfl)
      have f74 : s_ 74 = .bool true := hnew 14 74 (by kernel_rfl)
      have f75 : s_ 75 = vv k0 n0 s := hnew 15 75 (by kernel_rfl)
      have f76 : s_ 76 = .string t := hnew 16 76 (by kernel_rfl)
      have f77 : s_ 77 = vv k0 n0 s := hnew 17 77 (by kernel_rfl)
      have f78 : s_ 78 = .string t := hnew 18 78 (by kernel_rfl)
      have f79 : s_ 79 = .bool true := hnew 19 79 (by kernel_rfl)
      have f80 : s_ 80 = .bool true := hnew 20 80 (by kernel_rfl)
      have f81 : s_ 81 = .bool true := hnew 21 81 (by kernel_rfl)
      have f82 : s_ 82 = .pointer (some ⟨pw, 0, none⟩) := hnew 22 82 (by kernel_rfl)
      obtain ⟨A83, n83, cap83, f83, hB83⟩ := (hnew 23 83 (by kernel_rfl) : Holds (L) (s_ 83) w15)
      have f84 : s_ 84 = .string ⟨(L).toArray⟩ := hnew 24 84 (by kernel_rfl)
      have f85 : s_ 85 = vv k0 n0 s := hnew 25 85 (by kernel_rfl)
      obtain ⟨A86, n86, cap86, f86, hB86⟩ := (hnew 26 86 (by kernel_rfl) : Holds (L) (s_ 86) w15)
      have f87 : s_ 87 = .string ⟨(L).toArray⟩ := hnew 27 87 (by kernel_rfl)
      have f88 : s_ 88 = .bool true := hnew 28 88 (by kernel_rfl)
      have f89 : s_ 89 = .bool true := hnew 29 89 (by kernel_rfl)
      have f90 : s_ 90 = .bool true := hnew 30 90 (by kernel_rfl)
      have f91 : s_ 91 = vv K N ⟨SX.toArray⟩ := hnew 31 91 (by kernel_rfl)
      have f92 : s_ 92 = vv K N ⟨SX.toArray⟩ := hnew 32 92 (by kernel_rfl)
      have f93 : s_ 93 = .bool true := hnew 33 93 (by kernel_rfl)
      have f94 : s_ 94 = .bool true := hnew 34 94 (by kernel_rfl)
      have f95 : s_ 95 = .bool true := hnew 35 95 (by kernel_rfl)
      have f96 : s_ 96 = .int .i64 (e2 : Int) := hnew 36 96 (by kernel_rfl)
      have f97 : s_ 97 = .int .i64 (e2 : Int) := hnew 37 97 (by kernel_rfl)
      have f98 : s_ 98 = .bool true := hnew 38 98 (by kernel_rfl)
      have f99 : s_ 99 = .bool true := hnew 39 99 (by kernel_rfl)
      have f100 : s_ 100 = .bool true := hnew 40 100 (by kernel_rfl)
      have f101 : s_ 101 = .int .i64 (q2 : Int) := hnew 41 101 (by kernel_rfl)
      have f102 : s_ 102 = .int .i64 (q2 : Int) := hnew 42 102 (by kernel_rfl)
      have f103 : s_ 103 = .bool true := hnew 43 103 (by kernel_rfl)
      have f104 : s_ 104 = .bool true := hnew 44 104 (by kernel_rfl)
      have f105 : s_ 105 = .bool true := hnew 45 105 (by kernel_rfl)
      have f106 : s_ 106 = .int .i64 x3 := hnew 46 106 (by kernel_rfl)
      have f107 : s_ 107 = vv 1 x3 ⟨#[]⟩ := hnew 47 107 (by kernel_rfl)
      have f108 : s_ 108 = .int .i64 x3 := hnew 48 108 (by kernel_rfl)
      have f109 : s_ 109 = vv 1 x3 ⟨#[]⟩ := hnew 49 109 (by kernel_rfl)
      have f110 : s_ 110 = .bool true := hnew 50 110 (by kernel_rfl)
      have f111 : s_ 111 = .bool true := hnew 51 111 (by kernel_rfl)
      have f112 : s_ 112 = .bool true := hnew 52 112 (by kernel_rfl)
      have f113 : s_ 113 = .string s4 := hnew 53 113 (by kernel_rfl)
      have f114 : s_ 114 = vv 2 0 s4 := hnew 54 114 (by kernel_rfl)
      have f115 : s_ 115 = .string s4 := hnew 55 115 (by kernel_rfl)
      have f116 : s_ 116 = vv 2 0 s4 := hnew 56 116 (by kernel_rfl)
      have f117 : s_ 117 = .bool true := hnew 57 117 (by kernel_rfl)
      have f118 : s_ 118 = .bool true := hnew 58 118 (by kernel_rfl)
      have f119 : s_ 119 = .bool true := hnew 59 119 (by kernel_rfl)
      have f120 : s_ 120 = .bool true := hnew 60 120 (by kernel_rfl)
      have f121 : s_ 121 = .bool true := hnew 61 121 (by kernel_rfl)
      change Exit.then _ _ .normal ⟨#[s_ 0, s_ 1, s_ 2, s_ 3, s_ 4, s_ 5, s_ 6, s_ 7, s_ 8, s_ 9, s_ 10, s_ 11, s_ 12, s_ 13, s_ 14, s_ 15, s_ 16, s_ 17, s_ 18, s_ 19, s_ 20, s_ 21, s_ 22, s_ 23, s_ 24, s_ 25, s_ 26, s_ 27, s_ 28, s_ 29, s_ 30, s_ 31, s_ 32, s_ 33, s_ 34, s_ 35, s_ 36, s_ 37, s_ 38, s_ 39, s_ 40, s_ 41, s_ 42, s_ 43, s_ 44, s_ 45, s_ 46, s_ 47, s_ 48, s_ 49, s_ 50, s_ 51, s_ 52, s_ 53, s_ 54, s_ 55, s_ 56, s_ 57, s_ 58, s_ 59, s_ 60, s_ 61, s_ 62, s_ 63, s_ 64, s_ 65, s_ 66, s_ 67, s_ 68, s_ 69, s_ 70, s_ 71, s_ 72, s_ 73, s_ 74, s_ 75, s_ 76, s_ 77, s_ 78, s_ 79, s_ 80, s_ 81, s_ 82, s_ 83, s_ 84, s_ 85, s_ 86, s_ 87, s_ 88, s_ 89, s_ 90, s_ 91, s_ 92, s_ 93, s_ 94, s_ 95, s_ 96, s_ 97, s_ 98, s_ 99, s_ 100, s_ 101, s_ 102, s_ 103, s_ 104, s_ 105, s_ 106, s_ 107, s_ 108, s_ 109, s_ 110, s_ 111, s_ 112, s_ 113, s_ 114, s_ 115, s_ 116, s_ 117, s_ 118, s_ 119, s_ 120, s_ 121], _⟩ _
      simp only [f3, f4, f5, f6, f11, f15, f16, f17, f18, f19, f20, f10, f60, f61, f62, f63, f64, f65, f66, f67, f68, f69, f70, f71, f72, f73, f74, f75, f76, f77, f78, f79, f80, f81, f82, f83, f84, f85, f86, f87, f88, f89, f90, f91, f92, f93, f94, f95, f96, f97, f98, f99, f100, f101, f102, f103, f104, f105, f106, f107, f108, f109, f110, f111, f112, f113, f114, f115, f116, f117, f118, f119, f120, f121]
      clear hold hnew
      go_wp2
      go_ret
      exact ⟨rfl, (hE.trans E14).trans hEr⟩
end Go.Proofs.YtdakcljjmbhbgaaDoor
