/-
  The walk of RowTells.
-/
import Derived.Test.YtkjodlngpdihhaaLaw5
import Derived.Deep.DeepCutAuto
namespace Go.Proofs.Ytkjodlngpdihhaa
open Go.RowKit
set_option linter.unusedVariables false

/-- What stays through RowTells: its rows, its columns, its bytes. -/
structure RtS (w0 : World) (A0 : Option Addr) (n0 c0 : Nat) (a : List V) (A1 : Option Addr) (n1 c1 : Nat) (b : List V) (A2 : Option Addr) (n2 c2 : Nat) (l : List C) (A4 : Option Addr) (n4 c4 : Nat) (l4 : List UInt8) (w : World) : Prop where
  a : Vs w A0 n0 c0 a
  b : Vs w A1 n1 c1 b
  l : Cs w A2 n2 c2 l
  c : Bs w A4 n4 c4 l4
  all : Ev w0 w
theorem RtS.ev {w0 : World} {A0 : Option Addr} {n0 c0 : Nat} {a : List V} {A1 : Option Addr} {n1 c1 : Nat} {b : List V} {A2 : Option Addr} {n2 c2 : Nat} {l : List C} {A4 : Option Addr} {n4 c4 : Nat} {l4 : List UInt8} {w w' : World} (h : RtS w0 A0 n0 c0 a A1 n1 c1 b A2 n2 c2 l A4 n4 c4 l4 w) (hE : Ev w w') : RtS w0 A0 n0 c0 a A1 n1 c1 b A2 n2 c2 l A4 n4 c4 l4 w' :=
  ⟨h.a.ev hE, h.b.ev hE, h.l.ev hE, h.c.below hE, h.all.trans hE⟩
/-- .. and what was written, and the rows that were got. -/
structure RtT (p : Nat) (v : Value) (L : List UInt8) (A5 : Option Addr) (n5 c5 : Nat) (A6 : Option Addr) (n6 c6 : Nat) (u : List V) (w : World) : Prop where
  wr : Wr p v L w
  gu : Vs w A5 n5 c5 u
  gv : Vs w A6 n6 c6 u
theorem RtT.ev {p : Nat} {v : Value} {L : List UInt8} {A5 : Option Addr} {n5 c5 : Nat} {A6 : Option Addr} {n6 c6 : Nat} {u : List V} {w w' : World} (h : RtT p v L A5 n5 c5 A6 n6 c6 u w) (hE : Ev w w') : RtT p v L A5 n5 c5 A6 n6 c6 u w' :=
  ⟨h.wr.ev hE, h.gu.ev hE, h.gv.ev hE⟩
theorem okN_take {l : List V} (h : okN l) (k : Nat) : okN (l.take k) := fun x hx => h x (List.mem_of_mem_take hx)

set_option maxRecDepth 100000 in
set_option maxHeartbeats 16000000 in
theorem rt_walk (A0 : Option Addr) (n0 c0 : Nat) (l0 : List V) (A1 : Option Addr) (n1 c1 : Nat) (l1 : List V) (A2 : Option Addr) (n2 c2 : Nat) (l2 : List C) (s : ByteArray) (A4 : Option Addr) (n4 c4 : Nat) (l4 : List UInt8) (w : World)
    (h0 : Vs w A0 n0 c0 l0) (N0 : okN l0) (h1 : Vs w A1 n1 c1 l1) (h2 : Cs w A2 n2 c2 l2) (S2 : ∀ y ∈ l2, y.1.size ≤ maxLen) (hs : s.size ≤ maxLen) (h4 : Bs w A4 n4 c4 l4) (hb : sizeR l0 + n4 ≤ 8388608) :
    Calls Try.prog 4 #[.slice A0 n0 c0, .slice A1 n1 c1, .slice A2 n2 c2, .string s, .slice A4 n4 c4] w fun e w' => e = .returned (.bool true) ∧ Ev w w' := by
  have hn0 := h0.le
  have hn1 := h1.le
  have hn2 := h2.le
  go_enter Try.func4, Try.ntmps4
  go_upto_if 27 with fail
  go_cut [0] (fun v wx => ∃ (m : Nat) (a : List V), v = .slice A0 m c0 ∧ okN a ∧ sizeR a ≤ sizeR l0 ∧ RtS w A0 m c0 a A1 n1 c1 l1 A2 n2 c2 l2 A4 n4 c4 l4 wx)
  case first =>
    by_cases hs : (n0 : Int) > 8
    · go_wp2_with fail
      go_meet
      exact ⟨8, l0.take 8, rfl, okN_take N0 8, sizeR_take_le _ _, h0.to 8 (by omega), h1, h2, h4, Ev.refl _⟩
    · go_wp2_with fail
      go_meet
      exact ⟨n0, l0, rfl, N0, Nat.le_refl _, h0, h1, h2, h4, Ev.refl _⟩
  case rest =>
    obtain ⟨m0, a, rfl, NA, hza, S⟩ := hcut
    have hza : sizeR a + n4 ≤ 8388608 := by omega
    clear h0 N0 h1 h2 h4 hb
    go_upto_if 32 with fail
    go_cut [1] (fun v wx => ∃ (m : Nat) (b : List V), v = .slice A1 m c1 ∧ RtS w A0 m0 c0 a A1 m c1 b A2 n2 c2 l2 A4 n4 c4 l4 wx)
    case first =>
      by_cases hs : (n1 : Int) > 8
      · go_wp2_with fail
        go_meet
        exact ⟨8, l1.take 8, rfl, S.a, S.b.to 8 (by omega), S.l, S.c, S.all⟩
      · go_wp2_with fail
        go_meet
        exact ⟨n1, l1, rfl, S⟩
    case rest =>
      clear S
      obtain ⟨m1, b, rfl, S⟩ := hcut
      go_upto_if 37 with fail
      go_cut [2] (fun v wx => ∃ (m : Nat) (l : List C), v = .slice A2 m c2 ∧ (∀ y ∈ l, y.1.size ≤ maxLen) ∧ RtS w A0 m0 c0 a A1 m1 c1 b A2 m c2 l A4 n4 c4 l4 wx)
      case first =>
        by_cases hs : (n2 : Int) > 9
        · go_wp2_with fail
          go_meet
          exact ⟨9, l2.take 9, rfl, fun y hy => S2 y (List.mem_of_mem_take hy), S.a, S.b, S.l.to 9 (by omega), S.c, S.all⟩
        · go_wp2_with fail
          go_meet
          exact ⟨n2, l2, rfl, S2, S⟩
      case rest =>
        clear S S2
        obtain ⟨m2, l, rfl, S2, S⟩ := hcut
        obtain ⟨L, hL⟩ : ∃ L, putR a = L := ⟨_, rfl⟩
        have hpl := putR_length a
        obtain ⟨X, hX⟩ : ∃ X, L ++ l4 = X := ⟨_, rfl⟩
        have hl4 := S.c.len
        have hLl : L.length ≤ 8388609 := by rw [← hL]; omega
        have hXl : X.length ≤ 140737488355328 := by rw [← hX, List.length_append, ← hL]; omega
        have HP := fun p w1 (h : Wr p (.slice none 0 0) [] w1) (hr : Vs w1 A0 m0 c0 a) (hA : 0 < m0 → ∀ ad, A0 = some ad → ad.block ∉ p :: foot (.slice none 0 0)) => row_put p (.slice none 0 0) [] w1 h hr hA (by simp only [List.length_nil]; omega)
        have HRP := fun w1 (hr : Vs w1 A0 m0 c0 a) => ref5_put none 0 0 [] w1 (Bs.nil_ w1) hr NA (by omega)
        rw [hL] at HP HRP
        simp only [List.nil_append] at HP HRP
        have HN := Lib.hid (fun A cap w (h : Bs w A X.length cap X) => new_reader A X.length cap X w h hXl)
        have HD := Lib.hid (fun p v w (h : Wr p v L w) => writer_done p v L w h (by omega))
        have HG := fun p A cap w (h : Rd p A X.length cap X 0 0 w) => row_get w h
        have HGr := fun p A cap w (h : Rqs p A X.length cap X 0 0 w) => ref5_get w h
        generalize rdRow X 0 0 = R at *
        obtain ⟨RL, e, q⟩ := R
        simp only at HG HGr
        have HEnd := fun p A cap w (h : Rd p A X.length cap X e q w) => reader_end w h
        have HEndr := fun p A cap w (h : Rqs p A X.length cap X e q w) => ref_end w h
        generalize rdEnd X e q = D at *
        obtain ⟨e2, q2⟩ := D
        simp only at HEnd HEndr
        have HU := fun A5 n5 c5 A6 n6 c6 w1 (h : Vs w1 A5 n5 c5 RL) (h' : Vs w1 A6 n6 c6 RL) => keep_row w1 h h'
        rw [show eqL RL RL = true by unfold eqL; simp] at HU
        have HFd := fun w1 (h : Cs w1 A2 m2 c2 l) => row_find s w1 h
        have HFdr := fun w1 (h : Cs w1 A2 m2 c2 l) => ref5_find s w1 h
        generalize foundAt (findC l s) = fo at *
        generalize (findC l s).isSome = is at *
        have HR := fun w1 (h : Vs w1 A0 m0 c0 a) => row_right w1 h
        have HRr := fun w1 (h : Vs w1 A0 m0 c0 a) => ref5_right w1 h
        have HLs := fun w1 (h : Vs w1 A0 m0 c0 a) (h' : Vs w1 A1 m1 c1 b) => row_less w1 h h'
        have HLsr := fun w1 (h : Vs w1 A0 m0 c0 a) (h' : Vs w1 A1 m1 c1 b) => ref5_less w1 h h'
        have HSm := fun w1 (h : Vs w1 A0 m0 c0 a) (h' : Vs w1 A1 m1 c1 b) => row_same w1 h h'
        have HSmr := fun w1 (h : Vs w1 A0 m0 c0 a) (h' : Vs w1 A1 m1 c1 b) => ref5_same w1 h h'
        have HF := fun w1 (h : Cs w1 A2 m2 c2 l) (h' : Vs w1 A0 m0 c0 a) => row_fits w1 h h'
        have HFr := fun w1 (h : Cs w1 A2 m2 c2 l) (h' : Vs w1 A0 m0 c0 a) => ref5_fits w1 h h'
        have HC := fun w1 (h : Cs w1 A2 m2 c2 l) => row_columns w1 h
        have HCr := fun w1 (h : Cs w1 A2 m2 c2 l) => ref5_columns w1 h S2
        have HM := fun w1 => row_name s w1
        have HMr := fun w1 => ref5_name s w1 hs
        generalize rightR a = r_ at *
        generalize lessR a b = x_ at *
        generalize sameR a b = y_ at *
        generalize fitsL l a = f_ at *
        generalize colsV l = c_ at *
        generalize nameV s = n_ at *
        have HP := Lib.hid HP; have HRP := Lib.hid HRP; have HG := Lib.hid HG; have HGr := Lib.hid HGr; have HEnd := Lib.hid HEnd; have HEndr := Lib.hid HEndr; have HU := Lib.hid HU; have HFd := Lib.hid HFd; have HFdr := Lib.hid HFdr
        have HR := Lib.hid HR; have HRr := Lib.hid HRr; have HLs := Lib.hid HLs; have HLsr := Lib.hid HLsr; have HSm := Lib.hid HSm; have HSmr := Lib.hid HSmr; have HF := Lib.hid HF; have HFr := Lib.hid HFr; have HC := Lib.hid HC; have HCr := Lib.hid HCr; have HM := Lib.hid HM; have HMr := Lib.hid HMr
        have HNW := Lib.hid (fun w => new_writer5 w)
        have HK := Lib.hid (fun w => known_any w)
        have HLX := Lib.hid hX
        have HLA := Lib.hid (show L.length + l4.length ≤ 140737488355328 by omega)
        have HXL := Lib.hid hXl
        clear hX hl4 hL hpl hza NA hs S2 hLl hXl
        go_wp2_with (first
          | ((with_reducible refine (HNW.out wc).mono ?_); rintro y_ w4 ⟨rfl, hW4, hE4⟩)
          | ((with_reducible refine (HP.out _ w4 hW4 (S.a.ev hE4) (fun h ad e => by have := S.a.lt h ad e; simp [foot, Value.ownBlock]; omega)).mono ?_); rintro y_ w5 ⟨rfl, v5, hW5, hT5⟩; replace S := S.ev (Wrote.new5 hE4 (Nat.le_refl _) hT5))
          | ((with_reducible refine (HRP.out w5 S.a).mono ?_); rintro y_ w6 ⟨v6, rfl, hR6, hg6, hE6⟩; obtain ⟨A6, m6, cap6, rfl⟩ := hR6.form; have HB6 := Lib.hid (S.c.below hE6))
          | (at_builtin; refine wpList_append_row rfl (.tmp 47) (.tmp 48) rfl Try.underlying33 Try.infoU8 (.slice A6 m6 cap6) L rfl hR6 A4 n4 c4 l4 rfl HB6.out HLA.out ?_; intro v7 w7 hr7 hb7 hs7; rw [HLX.out] at hr7; have E7 : Ev w5 w7 := hE6.rows hg6 hb7; have hlt7 : ∀ g, v7.ownBlock = some g → g < w7.heap.size := (fun g h => hr7.lt h); obtain ⟨A7, cap7, rfl, hB7, hA7, _⟩ := hr7.bs; replace S := S.ev E7; have hW7 := hW5.ev E7)
          | ((with_reducible refine (HN.out _ _ w7 hB7).mono ?_); rintro y_ w8 ⟨p8, A8, cap8, rfl, hR8, hp8, hA8, hE8⟩; have hAlt : ∀ ad, A7 = some ad → ad.block < w7.heap.size := (fun ad h => hlt7 _ (hA7 ad h)); have hAlt8 : ∀ ad, A7 = some ad → ad.block < w8.heap.size := (fun ad h => Nat.lt_of_lt_of_le (hAlt ad h) hE8.size); have hQ9 := Rqs.new5 (hB7.below hE8) hAlt8 HXL.out; have E9 := Ev.alloc w8 (.cells #[.slice A7 X.length cap7, .int .i64 0, .bool false, .int .i64 0, .int .i64 0] 53); have hR9 := hR8.ev E9; have hp8l := hR8.lt; have hs9 : w8.heap.size + 1 ≤ (w8.alloc (.cells #[.slice A7 X.length cap7, .int .i64 0, .bool false, .int .i64 0, .int .i64 0] 53)).heap.size := by simp)
          | ((with_reducible refine (HG.out _ _ _ _ hR9).mono ?_); rintro y_ w10 ⟨v10, rfl, hV10, hg10, hR10, hB10⟩; have hQ10 := hQ9.but hB10 (by simp; omega) (fun ad h => by have := hAlt ad h; simp; omega); have E10 : Ev w7 w10 := But.new1 (hE8.trans E9) hp8 hB10; obtain ⟨A10, m10, cap10, rfl⟩ := hV10.form)
          | ((with_reducible refine (HGr.out _ _ _ w10 hQ10).mono ?_); rintro y_ w11 ⟨v11, rfl, hV11, hg11, hQ11, hB11⟩; have hR11 := hR10.but hB11 (by simp; omega) (fun ad h => by have := hA8 ad h; simp; omega); have hU11 := hV10.but hB11 (fun g hg hm => by have := hg10 g hg; simp at hm; omega); have E11 : Ev w7 w11 := But.new1 E10 hE8.size hB11; obtain ⟨A11, m11, cap11, rfl⟩ := hV11.form; replace S := S.ev E11; have T : RtT wc.heap.size v5 L A10 m10 cap10 A11 m11 cap11 RL w11 := (by obtain ⟨_, _, e1_, u1_, _⟩ := hU11.vs; obtain ⟨_, _, e2_, u2_, _⟩ := hV11.vs; cases e1_; cases e2_; exact ⟨hW7.ev E11, u1_, u2_⟩))
          | ((with_reducible refine (HEnd.out _ _ _ w11 hR11).mono ?_); rintro y_ w12 ⟨rfl, hq12⟩; have hE12 := Ev.of_drewN hq12; clear hq12; have hQ12 := hQ11.ev hE12; replace S := S.ev hE12; replace T := T.ev hE12)
          | ((with_reducible refine (HEndr.out _ _ _ w12 hQ12).mono ?_); rintro y_ w13 ⟨rfl, hE13⟩; replace S := S.ev hE13; replace T := T.ev hE13)
          | ((with_reducible refine (HFd.out _ S.l).mono ?_); rintro y_ wz ⟨rfl, hEz⟩; replace S := S.ev hEz; replace T := T.ev hEz)
          | ((with_reducible refine (HFdr.out _ S.l).mono ?_); rintro y_ wz ⟨rfl, hEz⟩; replace S := S.ev hEz; replace T := T.ev hEz))
        have hmix : Try.prog.follows .mixedOrders = true := by kernel_rfl
        generalize wc.heap.size = pw at *
        refine wp_region_slots hmix [fun v _ => v = .slice A0 m0 c0, fun v _ => v = .bool r_, fun v _ => v = .slice A0 m0 c0, fun v _ => v = .bool r_, fun v _ => v = .bool true, fun v _ => v = .bool true, fun v _ => v = .slice A0 m0 c0, fun v _ => v = .slice A1 m1 c1, fun v _ => v = .bool x_, fun v _ => v = .slice A0 m0 c0, fun v _ => v = .slice A1 m1 c1, fun v _ => v = .bool x_, fun v _ => v = .bool true, fun v _ => v = .bool true, fun v _ => v = .bool true, fun v _ => v = .slice A0 m0 c0, fun v _ => v = .slice A1 m1 c1, fun v _ => v = .bool y_, fun v _ => v = .slice A0 m0 c0, fun v _ => v = .slice A1 m1 c1, fun v _ => v = .bool y_, fun v _ => v = .bool true, fun v _ => v = .bool true, fun v _ => v = .bool true, fun v _ => v = .slice A2 m2 c2, fun v _ => v = .slice A0 m0 c0, fun v _ => v = .bool f_, fun v _ => v = .slice A2 m2 c2, fun v _ => v = .slice A0 m0 c0, fun v _ => v = .bool f_, fun v _ => v = .bool true, fun v _ => v = .bool true, fun v _ => v = .bool true, fun v _ => v = .slice A2 m2 c2, fun v _ => v = .int .i64 c_, fun v _ => v = .slice A2 m2 c2, fun v _ => v = .int .i64 c_, fun v _ => v = .bool true, fun v _ => v = .bool true, fun v _ => v = .bool true, fun v _ => v = .string s, fun v _ => v = .bool n_, fun v _ => v = .string s, fun v _ => v = .bool n_, fun v _ => v = .bool true, fun v _ => v = .bool true, fun v _ => v = .bool true, fun v _ => v = .int .i64 fo, fun v _ => v = .int .i64 fo, fun v _ => v = .bool true, fun v _ => v = .bool true, fun v _ => v = .bool true, fun v _ => v = .bool is, fun v _ => v = .bool is, fun v _ => v = .bool true, fun v _ => v = .bool true, fun v _ => v = .bool true, fun v _ => v = .pointer (some ⟨pw, 0, none⟩), Holds (L), fun v _ => v = .string ⟨(L).toArray⟩, fun v _ => v = .slice A0 m0 c0, Holds (L), fun v _ => v = .string ⟨(L).toArray⟩, fun v _ => v = .bool true, fun v _ => v = .bool true, fun v _ => v = .bool true, fun v _ => v = .slice A10 m10 cap10, fun v _ => v = .slice A11 m11 cap11, fun v _ => v = .bool true, fun v _ => v = .bool true, fun v _ => v = .bool true, fun v _ => v = .int .i64 (e2 : Int), fun v _ => v = .int .i64 (e2 : Int), fun v _ => v = .bool true, fun v _ => v = .bool true, fun v _ => v = .bool true, fun v _ => v = .int .i64 (q2 : Int), fun v _ => v = .int .i64 (q2 : Int), fun v _ => v = .bool true, fun v _ => v = .bool true, fun v _ => v = .bool true, fun v _ => v = .bool true, fun v _ => v = .bool true, fun v _ => v = .bool true]
          166 rfl (by kernel_rfl) ⟨mono_eq _, mono_eq _, mono_eq _, mono_eq _, mono_eq _, mono_eq _, mono_eq _, mono_eq _, mono_eq _, mono_eq _, mono_eq _, mono_eq _, mono_eq _, mono_eq _, mono_eq _, mono_eq _, mono_eq _, mono_eq _, mono_eq _, mono_eq _, mono_eq _, mono_eq _, mono_eq _, mono_eq _, mono_eq _, mono_eq _, mono_eq _, mono_eq _, mono_eq _, mono_eq _, mono_eq _, mono_eq _, mono_eq _, mono_eq _, mono_eq _, mono_eq _, mono_eq _, mono_eq _, mono_eq _, mono_eq _, mono_eq _, mono_eq _, mono_eq _, mono_eq _, mono_eq _, mono_eq _, mono_eq _, mono_eq _, mono_eq _, mono_eq _, mono_eq _, mono_eq _, mono_eq _, mono_eq _, mono_eq _, mono_eq _, mono_eq _, mono_eq _, Holds.mono _, mono_eq _, mono_eq _, Holds.mono _, mono_eq _, mono_eq _, mono_eq _, mono_eq _, mono_eq _, mono_eq _, mono_eq _, mono_eq _, mono_eq _, mono_eq _, mono_eq _, mono_eq _, mono_eq _, mono_eq _, mono_eq _, mono_eq _, mono_eq _, mono_eq _, mono_eq _, mono_eq _, mono_eq _, mono_eq _, trivial⟩ ?_ ?_
        · refine ops_cons 0 ?_ (ops_cons 1 ?_ (ops_cons 2 ?_ (ops_cons 3 ?_ (ops_cons 4 ?_ (ops_cons 5 ?_ (ops_cons 6 ?_ (ops_cons 7 ?_ (ops_cons 8 ?_ (ops_cons 9 ?_ (ops_cons 10 ?_ (ops_cons 11 ?_ (ops_cons 12 ?_ (ops_cons 13 ?_ (ops_cons 14 ?_ (ops_cons 15 ?_ (ops_cons 16 ?_ (ops_cons 17 ?_ (ops_cons 18 ?_ (ops_cons 19 ?_ (ops_cons 20 ?_ (ops_cons 21 ?_ (ops_cons 22 ?_ (ops_cons 23 ?_ (ops_cons 24 ?_ (ops_cons 25 ?_ (ops_cons 26 ?_ (ops_cons 27 ?_ (ops_cons 28 ?_ (ops_cons 29 ?_ (ops_cons 30 ?_ (ops_cons 31 ?_ (ops_cons 32 ?_ (ops_cons 33 ?_ (ops_cons 34 ?_ (ops_cons 35 ?_ (ops_cons 36 ?_ (ops_cons 37 ?_ (ops_cons 38 ?_ (ops_cons 39 ?_ (ops_cons 40 ?_ (ops_cons 41 ?_ (ops_cons 42 ?_ (ops_cons 43 ?_ (ops_cons 44 ?_ (ops_cons 45 ?_ (ops_cons 46 ?_ (ops_cons 47 ?_ (ops_cons 48 ?_ (ops_cons 49 ?_ (ops_cons 50 ?_ (ops_cons 51 ?_ (ops_cons 52 ?_ (ops_cons 53 ?_ (ops_cons 54 ?_ (ops_cons 55 ?_ (ops_cons 56 ?_ (ops_cons 57 ?_ (ops_cons 58 ?_ (ops_cons 59 ?_ (ops_cons 60 ?_ (ops_cons 61 ?_ (ops_cons 62 ?_ (ops_cons 63 ?_ (ops_cons 64 ?_ (ops_cons 65 ?_ (ops_cons 66 ?_ (ops_cons 67 ?_ (ops_cons 68 ?_ (ops_cons 69 ?_ (ops_cons 70 ?_ (ops_cons 71 ?_ (ops_cons 72 ?_ (ops_cons 73 ?_ (ops_cons 74 ?_ (ops_cons 75 ?_ (ops_cons 76 ?_ (ops_cons 77 ?_ (ops_cons 78 ?_ (ops_cons 79 ?_ (ops_cons 80 ?_ (ops_cons 81 ?_ (ops_cons 82 ?_ (ops_cons 83 ?_ (ops_nil 84))))))))))))))))))))))))))))))))))))))))))))))))))))))))))))))))))))))))))))))))))))
          · refine op_value fun a w c => ⟨(wanted_plain rfl), _, run_move _ rfl w, (c.was 0 (by kernel_rfl) rfl)⟩
          · refine op_call fun a w c => ⟨(wanted_plain rfl), 15, #[.slice A0 m0 c0], ?_, ?_⟩
            · rw [run_call 15 _ _ rfl (by kernel_rfl)]
              have e83 : a.eval (.tmp 83) = .slice A0 m0 c0 := (c.new 0 83 (by kernel_rfl) (by kernel_rfl))
              simp [e83]
            · refine (HR.out w (S.ev c.ev).a).mono ?_
              rintro e w2 ⟨rfl, hE⟩
              exact ⟨_, rfl, hE, rfl⟩
          · refine op_value fun a w c => ⟨(wanted_plain rfl), _, run_move _ rfl w, (c.was 0 (by kernel_rfl) rfl)⟩
          · refine op_call fun a w c => ⟨(wanted_plain rfl), 27, #[.slice A0 m0 c0], ?_, ?_⟩
            · rw [run_call 27 _ _ rfl (by kernel_rfl)]
              have e85 : a.eval (.tmp 85) = .slice A0 m0 c0 := (c.new 2 85 (by kernel_rfl) (by kernel_rfl))
              simp [e85]
            · refine (HRr.out w (S.ev c.ev).a).mono ?_
              rintro e w2 ⟨rfl, hE⟩
              exact ⟨_, rfl, hE, rfl⟩
          · refine op_value fun a w c => ⟨(wanted_plain rfl), .bool true, ?_, rfl⟩
            have e84 : a.eval (.tmp 84) = .bool r_ := (c.new 1 84 (by kernel_rfl) (by kernel_rfl))
            have e86 : a.eval (.tmp 86) = .bool r_ := (c.new 3 86 (by kernel_rfl) (by kernel_rfl))
            generalize a.eval = ρ at e84 e86 ⊢
            simp [execOp, e84, e86, go_sem]
          · refine op_value fun a w c => ⟨(wanted_plain rfl), _, run_move _ rfl w, (c.new 4 87 (by kernel_rfl) (by kernel_rfl))⟩
          · refine op_value fun a w c => ⟨(wanted_yes rfl (by kernel_rfl) (c.new 5 88 (by kernel_rfl) (by kernel_rfl))), _, run_move _ rfl w, (c.was 0 (by kernel_rfl) rfl)⟩
          · refine op_value fun a w c => ⟨(wanted_yes rfl (by kernel_rfl) (c.new 5 88 (by kernel_rfl) (by kernel_rfl))), _, run_move _ rfl w, (c.was 1 (by kernel_rfl) rfl)⟩
          · refine op_call fun a w c => ⟨(wanted_yes rfl (by kernel_rfl) (c.new 5 88 (by kernel_rfl) (by kernel_rfl))), 28, #[.slice A0 m0 c0, .slice A1 m1 c1], ?_, ?_⟩
            · rw [run_call 28 _ _ rfl (by kernel_rfl)]
              have e89 : a.eval (.tmp 89) = .slice A0 m0 c0 := (c.new 6 89 (by kernel_rfl) (by kernel_rfl))
              have e90 : a.eval (.tmp 90) = .slice A1 m1 c1 := (c.new 7 90 (by kernel_rfl) (by kernel_rfl))
              simp [e89, e90]
            · refine (HLs.out w (S.ev c.ev).a (S.ev c.ev).b).mono ?_
              rintro e w2 ⟨rfl, hE⟩
              exact ⟨_, rfl, hE, rfl⟩
          · refine op_value fun a w c => ⟨(wanted_yes rfl (by kernel_rfl) (c.new 5 88 (by kernel_rfl) (by kernel_rfl))), _, run_move _ rfl w, (c.was 0 (by kernel_rfl) rfl)⟩
          · refine op_value fun a w c => ⟨(wanted_yes rfl (by kernel_rfl) (c.new 5 88 (by kernel_rfl) (by kernel_rfl))), _, run_move _ rfl w, (c.was 1 (by kernel_rfl) rfl)⟩
          · refine op_call fun a w c => ⟨(wanted_yes rfl (by kernel_rfl) (c.new 5 88 (by kernel_rfl) (by kernel_rfl))), 29, #[.slice A0 m0 c0, .slice A1 m1 c1], ?_, ?_⟩
            · rw [run_call 29 _ _ rfl (by kernel_rfl)]
              have e92 : a.eval (.tmp 92) = .slice A0 m0 c0 := (c.new 9 92 (by kernel_rfl) (by kernel_rfl))
              have e93 : a.eval (.tmp 93) = .slice A1 m1 c1 := (c.new 10 93 (by kernel_rfl) (by kernel_rfl))
              simp [e92, e93]
            · refine (HLsr.out w (S.ev c.ev).a (S.ev c.ev).b).mono ?_
              rintro e w2 ⟨rfl, hE⟩
              exact ⟨_, rfl, hE, rfl⟩
          · refine op_value fun a w c => ⟨(wanted_yes rfl (by kernel_rfl) (c.new 5 88 (by kernel_rfl) (by kernel_rfl))), .bool true, ?_, rfl⟩
            have e91 : a.eval (.tmp 91) = .bool x_ := (c.new 8 91 (by kernel_rfl) (by kernel_rfl))
            have e94 : a.eval (.tmp 94) = .bool x_ := (c.new 11 94 (by kernel_rfl) (by kernel_rfl))
            generalize a.eval = ρ at e91 e94 ⊢
            simp [execOp, e91, e94, go_sem]
          · refine op_value fun a w c => ⟨(wanted_plain rfl), _, run_pick_true rfl (c.new 5 88 (by kernel_rfl) (by kernel_rfl)) w, (c.new 12 95 (by kernel_rfl) (by kernel_rfl))⟩
          · refine op_value fun a w c => ⟨(wanted_plain rfl), _, run_move _ rfl w, (c.new 13 96 (by kernel_rfl) (by kernel_rfl))⟩
          · refine op_value fun a w c => ⟨(wanted_yes rfl (by kernel_rfl) (c.new 14 97 (by kernel_rfl) (by kernel_rfl))), _, run_move _ rfl w, (c.was 0 (by kernel_rfl) rfl)⟩
          · refine op_value fun a w c => ⟨(wanted_yes rfl (by kernel_rfl) (c.new 14 97 (by kernel_rfl) (by kernel_rfl))), _, run_move _ rfl w, (c.was 1 (by kernel_rfl) rfl)⟩
          · refine op_call fun a w c => ⟨(wanted_yes rfl (by kernel_rfl) (c.new 14 97 (by kernel_rfl) (by kernel_rfl))), 19, #[.slice A0 m0 c0, .slice A1 m1 c1], ?_, ?_⟩
            · rw [run_call 19 _ _ rfl (by kernel_rfl)]
              have e98 : a.eval (.tmp 98) = .slice A0 m0 c0 := (c.new 15 98 (by kernel_rfl) (by kernel_rfl))
              have e99 : a.eval (.tmp 99) = .slice A1 m1 c1 := (c.new 16 99 (by kernel_rfl) (by kernel_rfl))
              simp [e98, e99]
            · refine (HSm.out w (S.ev c.ev).a (S.ev c.ev).b).mono ?_
              rintro e w2 ⟨rfl, hE⟩
              exact ⟨_, rfl, hE, rfl⟩
          · refine op_value fun a w c => ⟨(wanted_yes rfl (by kernel_rfl) (c.new 14 97 (by kernel_rfl) (by kernel_rfl))), _, run_move _ rfl w, (c.was 0 (by kernel_rfl) rfl)⟩
          · refine op_value fun a w c => ⟨(wanted_yes rfl (by kernel_rfl) (c.new 14 97 (by kernel_rfl) (by kernel_rfl))), _, run_move _ rfl w, (c.was 1 (by kernel_rfl) rfl)⟩
          · refine op_call fun a w c => ⟨(wanted_yes rfl (by kernel_rfl) (c.new 14 97 (by kernel_rfl) (by kernel_rfl))), 30, #[.slice A0 m0 c0, .slice A1 m1 c1], ?_, ?_⟩
            · rw [run_call 30 _ _ rfl (by kernel_rfl)]
              have e101 : a.eval (.tmp 101) = .slice A0 m0 c0 := (c.new 18 101 (by kernel_rfl) (by kernel_rfl))
              have e102 : a.eval (.tmp 102) = .slice A1 m1 c1 := (c.new 19 102 (by kernel_rfl) (by kernel_rfl))
              simp [e101, e102]
            · refine (HSmr.out w (S.ev c.ev).a (S.ev c.ev).b).mono ?_
              rintro e w2 ⟨rfl, hE⟩
              exact ⟨_, rfl, hE, rfl⟩
          · refine op_value fun a w c => ⟨(wanted_yes rfl (by kernel_rfl) (c.new 14 97 (by kernel_rfl) (by kernel_rfl))), .bool true, ?_, rfl⟩
            have e100 : a.eval (.tmp 100) = .bool y_ := (c.new 17 100 (by kernel_rfl) (by kernel_rfl))
            have e103 : a.eval (.tmp 103) = .bool y_ := (c.new 20 103 (by kernel_rfl) (by kernel_rfl))
            generalize a.eval = ρ at e100 e103 ⊢
            simp [execOp, e100, e103, go_sem]
          · refine op_value fun a w c => ⟨(wanted_plain rfl), _, run_pick_true rfl (c.new 14 97 (by kernel_rfl) (by kernel_rfl)) w, (c.new 21 104 (by kernel_rfl) (by kernel_rfl))⟩
          · refine op_value fun a w c => ⟨(wanted_plain rfl), _, run_move _ rfl w, (c.new 22 105 (by kernel_rfl) (by kernel_rfl))⟩
          · refine op_value fun a w c => ⟨(wanted_yes rfl (by kernel_rfl) (c.new 23 106 (by kernel_rfl) (by kernel_rfl))), _, run_move _ rfl w, (c.was 2 (by kernel_rfl) rfl)⟩
          · refine op_value fun a w c => ⟨(wanted_yes rfl (by kernel_rfl) (c.new 23 106 (by kernel_rfl) (by kernel_rfl))), _, run_move _ rfl w, (c.was 0 (by kernel_rfl) rfl)⟩
          · refine op_call fun a w c => ⟨(wanted_yes rfl (by kernel_rfl) (c.new 23 106 (by kernel_rfl) (by kernel_rfl))), 18, #[.slice A2 m2 c2, .slice A0 m0 c0], ?_, ?_⟩
            · rw [run_call 18 _ _ rfl (by kernel_rfl)]
              have e107 : a.eval (.tmp 107) = .slice A2 m2 c2 := (c.new 24 107 (by kernel_rfl) (by kernel_rfl))
              have e108 : a.eval (.tmp 108) = .slice A0 m0 c0 := (c.new 25 108 (by kernel_rfl) (by kernel_rfl))
              simp [e107, e108]
            · refine (HF.out w (S.ev c.ev).l (S.ev c.ev).a).mono ?_
              rintro e w2 ⟨rfl, hE⟩
              exact ⟨_, rfl, hE, rfl⟩
          · refine op_value fun a w c => ⟨(wanted_yes rfl (by kernel_rfl) (c.new 23 106 (by kernel_rfl) (by kernel_rfl))), _, run_move _ rfl w, (c.was 2 (by kernel_rfl) rfl)⟩
          · refine op_value fun a w c => ⟨(wanted_yes rfl (by kernel_rfl) (c.new 23 106 (by kernel_rfl) (by kernel_rfl))), _, run_move _ rfl w, (c.was 0 (by kernel_rfl) rfl)⟩
          · refine op_call fun a w c => ⟨(wanted_yes rfl (by kernel_rfl) (c.new 23 106 (by kernel_rfl) (by kernel_rfl))), 31, #[.slice A2 m2 c2, .slice A0 m0 c0], ?_, ?_⟩
            · rw [run_call 31 _ _ rfl (by kernel_rfl)]
              have e110 : a.eval (.tmp 110) = .slice A2 m2 c2 := (c.new 27 110 (by kernel_rfl) (by kernel_rfl))
              have e111 : a.eval (.tmp 111) = .slice A0 m0 c0 := (c.new 28 111 (by kernel_rfl) (by kernel_rfl))
              simp [e110, e111]
            · refine (HFr.out w (S.ev c.ev).l (S.ev c.ev).a).mono ?_
              rintro e w2 ⟨rfl, hE⟩
              exact ⟨_, rfl, hE, rfl⟩
          · refine op_value fun a w c => ⟨(wanted_yes rfl (by kernel_rfl) (c.new 23 106 (by kernel_rfl) (by kernel_rfl))), .bool true, ?_, rfl⟩
            have e109 : a.eval (.tmp 109) = .bool f_ := (c.new 26 109 (by kernel_rfl) (by kernel_rfl))
            have e112 : a.eval (.tmp 112) = .bool f_ := (c.new 29 112 (by kernel_rfl) (by kernel_rfl))
            generalize a.eval = ρ at e109 e112 ⊢
            simp [execOp, e109, e112, go_sem]
          · refine op_value fun a w c => ⟨(wanted_plain rfl), _, run_pick_true rfl (c.new 23 106 (by kernel_rfl) (by kernel_rfl)) w, (c.new 30 113 (by kernel_rfl) (by kernel_rfl))⟩
          · refine op_value fun a w c => ⟨(wanted_plain rfl), _, run_move _ rfl w, (c.new 31 114 (by kernel_rfl) (by kernel_rfl))⟩
          · refine op_value fun a w c => ⟨(wanted_yes rfl (by kernel_rfl) (c.new 32 115 (by kernel_rfl) (by kernel_rfl))), _, run_move _ rfl w, (c.was 2 (by kernel_rfl) rfl)⟩
          · refine op_call fun a w c => ⟨(wanted_yes rfl (by kernel_rfl) (c.new 32 115 (by kernel_rfl) (by kernel_rfl))), 7, #[.slice A2 m2 c2], ?_, ?_⟩
            · rw [run_call 7 _ _ rfl (by kernel_rfl)]
              have e116 : a.eval (.tmp 116) = .slice A2 m2 c2 := (c.new 33 116 (by kernel_rfl) (by kernel_rfl))
              simp [e116]
            · refine (HC.out w (S.ev c.ev).l).mono ?_
              rintro e w2 ⟨rfl, hE⟩
              exact ⟨_, rfl, hE, rfl⟩
          · refine op_value fun a w c => ⟨(wanted_yes rfl (by kernel_rfl) (c.new 32 115 (by kernel_rfl) (by kernel_rfl))), _, run_move _ rfl w, (c.was 2 (by kernel_rfl) rfl)⟩
          · refine op_call fun a w c => ⟨(wanted_yes rfl (by kernel_rfl) (c.new 32 115 (by kernel_rfl) (by kernel_rfl))), 8, #[.slice A2 m2 c2], ?_, ?_⟩
            · rw [run_call 8 _ _ rfl (by kernel_rfl)]
              have e118 : a.eval (.tmp 118) = .slice A2 m2 c2 := (c.new 35 118 (by kernel_rfl) (by kernel_rfl))
              simp [e118]
            · refine (HCr.out w (S.ev c.ev).l).mono ?_
              rintro e w2 ⟨rfl, hE⟩
              exact ⟨_, rfl, hE, rfl⟩
          · refine op_value fun a w c => ⟨(wanted_yes rfl (by kernel_rfl) (c.new 32 115 (by kernel_rfl) (by kernel_rfl))), .bool true, ?_, rfl⟩
            have e117 : a.eval (.tmp 117) = .int .i64 c_ := (c.new 34 117 (by kernel_rfl) (by kernel_rfl))
            have e119 : a.eval (.tmp 119) = .int .i64 c_ := (c.new 36 119 (by kernel_rfl) (by kernel_rfl))
            generalize a.eval = ρ at e117 e119 ⊢
            simp [execOp, e117, e119, go_sem]
          · refine op_value fun a w c => ⟨(wanted_plain rfl), _, run_pick_true rfl (c.new 32 115 (by kernel_rfl) (by kernel_rfl)) w, (c.new 37 120 (by kernel_rfl) (by kernel_rfl))⟩
          · refine op_value fun a w c => ⟨(wanted_plain rfl), _, run_move _ rfl w, (c.new 38 121 (by kernel_rfl) (by kernel_rfl))⟩
          · refine op_value fun a w c => ⟨(wanted_yes rfl (by kernel_rfl) (c.new 39 122 (by kernel_rfl) (by kernel_rfl))), _, run_move _ rfl w, (c.was 3 (by kernel_rfl) rfl)⟩
          · refine op_call fun a w c => ⟨(wanted_yes rfl (by kernel_rfl) (c.new 39 122 (by kernel_rfl) (by kernel_rfl))), 9, #[.string s], ?_, ?_⟩
            · rw [run_call 9 _ _ rfl (by kernel_rfl)]
              have e123 : a.eval (.tmp 123) = .string s := (c.new 40 123 (by kernel_rfl) (by kernel_rfl))
              simp [e123]
            · refine (HM.out w).mono ?_
              rintro e w2 ⟨rfl, hE⟩
              exact ⟨_, rfl, hE, rfl⟩
          · refine op_value fun a w c => ⟨(wanted_yes rfl (by kernel_rfl) (c.new 39 122 (by kernel_rfl) (by kernel_rfl))), _, run_move _ rfl w, (c.was 3 (by kernel_rfl) rfl)⟩
          · refine op_call fun a w c => ⟨(wanted_yes rfl (by kernel_rfl) (c.new 39 122 (by kernel_rfl) (by kernel_rfl))), 10, #[.string s], ?_, ?_⟩
            · rw [run_call 10 _ _ rfl (by kernel_rfl)]
              have e125 : a.eval (.tmp 125) = .string s := (c.new 42 125 (by kernel_rfl) (by kernel_rfl))
              simp [e125]
            · refine (HMr.out w).mono ?_
              rintro e w2 ⟨rfl, hE⟩
              exact ⟨_, rfl, hE, rfl⟩
          · refine op_value fun a w c => ⟨(wanted_yes rfl (by kernel_rfl) (c.new 39 122 (by kernel_rfl) (by kernel_rfl))), .bool true, ?_, rfl⟩
            have e124 : a.eval (.tmp 124) = .bool n_ := (c.new 41 124 (by kernel_rfl) (by kernel_rfl))
            have e126 : a.eval (.tmp 126) = .bool n_ := (c.new 43 126 (by kernel_rfl) (by kernel_rfl))
            generalize a.eval = ρ at e124 e126 ⊢
            simp [execOp, e124, e126, go_sem]
          · refine op_value fun a w c => ⟨(wanted_plain rfl), _, run_pick_true rfl (c.new 39 122 (by kernel_rfl) (by kernel_rfl)) w, (c.new 44 127 (by kernel_rfl) (by kernel_rfl))⟩
          · refine op_value fun a w c => ⟨(wanted_plain rfl), _, run_move _ rfl w, (c.new 45 128 (by kernel_rfl) (by kernel_rfl))⟩
          · refine op_value fun a w c => ⟨(wanted_yes rfl (by kernel_rfl) (c.new 46 129 (by kernel_rfl) (by kernel_rfl))), _, run_move _ rfl w, (c.was 21 (by kernel_rfl) rfl)⟩
          · refine op_value fun a w c => ⟨(wanted_yes rfl (by kernel_rfl) (c.new 46 129 (by kernel_rfl) (by kernel_rfl))), _, run_move _ rfl w, (c.was 23 (by kernel_rfl) rfl)⟩
          · refine op_value fun a w c => ⟨(wanted_yes rfl (by kernel_rfl) (c.new 46 129 (by kernel_rfl) (by kernel_rfl))), .bool true, ?_, rfl⟩
            have e130 : a.eval (.tmp 130) = .int .i64 fo := (c.new 47 130 (by kernel_rfl) (by kernel_rfl))
            have e131 : a.eval (.tmp 131) = .int .i64 fo := (c.new 48 131 (by kernel_rfl) (by kernel_rfl))
            generalize a.eval = ρ at e130 e131 ⊢
            simp [execOp, e130, e131, go_sem]
          · refine op_value fun a w c => ⟨(wanted_plain rfl), _, run_pick_true rfl (c.new 46 129 (by kernel_rfl) (by kernel_rfl)) w, (c.new 49 132 (by kernel_rfl) (by kernel_rfl))⟩
          · refine op_value fun a w c => ⟨(wanted_plain rfl), _, run_move _ rfl w, (c.new 50 133 (by kernel_rfl) (by kernel_rfl))⟩
          · refine op_value fun a w c => ⟨(wanted_yes rfl (by kernel_rfl) (c.new 51 134 (by kernel_rfl) (by kernel_rfl))), _, run_move _ rfl w, (c.was 22 (by kernel_rfl) rfl)⟩
          · refine op_value fun a w c => ⟨(wanted_yes rfl (by kernel_rfl) (c.new 51 134 (by kernel_rfl) (by kernel_rfl))), _, run_move _ rfl w, (c.was 24 (by kernel_rfl) rfl)⟩
          · refine op_value fun a w c => ⟨(wanted_yes rfl (by kernel_rfl) (c.new 51 134 (by kernel_rfl) (by kernel_rfl))), .bool true, ?_, rfl⟩
            have e135 : a.eval (.tmp 135) = .bool is := (c.new 52 135 (by kernel_rfl) (by kernel_rfl))
            have e136 : a.eval (.tmp 136) = .bool is := (c.new 53 136 (by kernel_rfl) (by kernel_rfl))
            generalize a.eval = ρ at e135 e136 ⊢
            simp [execOp, e135, e136, go_sem]
          · refine op_value fun a w c => ⟨(wanted_plain rfl), _, run_pick_true rfl (c.new 51 134 (by kernel_rfl) (by kernel_rfl)) w, (c.new 54 137 (by kernel_rfl) (by kernel_rfl))⟩
          · refine op_value fun a w c => ⟨(wanted_plain rfl), _, run_move _ rfl w, (c.new 55 138 (by kernel_rfl) (by kernel_rfl))⟩
          · refine op_value fun a w c => ⟨(wanted_yes rfl (by kernel_rfl) (c.new 56 139 (by kernel_rfl) (by kernel_rfl))), _, run_move _ rfl w, (c.was 11 (by kernel_rfl) rfl)⟩
          · refine op_call fun a w c => ⟨(wanted_yes rfl (by kernel_rfl) (c.new 56 139 (by kernel_rfl) (by kernel_rfl))), 32, #[.pointer (some ⟨pw, 0, none⟩)], ?_, ?_⟩
            · rw [run_call 32 _ _ rfl (by kernel_rfl)]
              have e140 : a.eval (.tmp 140) = .pointer (some ⟨pw, 0, none⟩) := (c.new 57 140 (by kernel_rfl) (by kernel_rfl))
              simp [e140]
            · refine (HD.out _ _ w (T.ev c.ev).wr).mono ?_
              rintro e w2 ⟨A', cap', rfl, hB, _, hE⟩
              exact ⟨_, rfl, hE, ⟨_, _, _, rfl, hB⟩⟩
          · refine op_value fun a w c => ⟨(wanted_yes rfl (by kernel_rfl) (c.new 56 139 (by kernel_rfl) (by kernel_rfl))), _, run_str rfl Try.underlying33 Try.underlying5 Try.underlying9 rfl ((c.new 58 141 (by kernel_rfl) (by kernel_rfl)) : Holds (L) _ _), rfl⟩
          · refine op_value fun a w c => ⟨(wanted_yes rfl (by kernel_rfl) (c.new 56 139 (by kernel_rfl) (by kernel_rfl))), _, run_move _ rfl w, (c.was 0 (by kernel_rfl) rfl)⟩
          · refine op_call fun a w c => ⟨(wanted_yes rfl (by kernel_rfl) (c.new 56 139 (by kernel_rfl) (by kernel_rfl))), 23, #[.slice none 0 0, .slice A0 m0 c0], ?_, ?_⟩
            · rw [run_call 23 _ _ rfl (by kernel_rfl)]
              have e143 : a.eval (.tmp 143) = .slice A0 m0 c0 := (c.new 60 143 (by kernel_rfl) (by kernel_rfl))
              simp [e143, evc]
            · refine (HRP.out w (S.ev c.ev).a).mono ?_
              rintro e w2 ⟨v, rfl, hRw, _, hE⟩
              obtain ⟨A', cap', rfl, hB, _⟩ := hRw.bs
              exact ⟨_, rfl, hE, ⟨_, _, _, rfl, hB⟩⟩
          · refine op_value fun a w c => ⟨(wanted_yes rfl (by kernel_rfl) (c.new 56 139 (by kernel_rfl) (by kernel_rfl))), _, run_str rfl Try.underlying33 Try.underlying5 Try.underlying9 rfl ((c.new 61 144 (by kernel_rfl) (by kernel_rfl)) : Holds (L) _ _), rfl⟩
          · refine op_value fun a w c => ⟨(wanted_yes rfl (by kernel_rfl) (c.new 56 139 (by kernel_rfl) (by kernel_rfl))), .bool true, ?_, rfl⟩
            have e142 : a.eval (.tmp 142) = .string ⟨(L).toArray⟩ := (c.new 59 142 (by kernel_rfl) (by kernel_rfl))
            have e145 : a.eval (.tmp 145) = .string ⟨(L).toArray⟩ := (c.new 62 145 (by kernel_rfl) (by kernel_rfl))
            generalize a.eval = ρ at e142 e145 ⊢
            simp [execOp, e142, e145, go_sem]
          · refine op_value fun a w c => ⟨(wanted_plain rfl), _, run_pick_true rfl (c.new 56 139 (by kernel_rfl) (by kernel_rfl)) w, (c.new 63 146 (by kernel_rfl) (by kernel_rfl))⟩
          · refine op_value fun a w c => ⟨(wanted_plain rfl), _, run_move _ rfl w, (c.new 64 147 (by kernel_rfl) (by kernel_rfl))⟩
          · refine op_value fun a w c => ⟨(wanted_yes rfl (by kernel_rfl) (c.new 65 148 (by kernel_rfl) (by kernel_rfl))), _, run_move _ rfl w, (c.was 15 (by kernel_rfl) rfl)⟩
          · refine op_value fun a w c => ⟨(wanted_yes rfl (by kernel_rfl) (c.new 65 148 (by kernel_rfl) (by kernel_rfl))), _, run_move _ rfl w, (c.was 16 (by kernel_rfl) rfl)⟩
          · refine op_call fun a w c => ⟨(wanted_yes rfl (by kernel_rfl) (c.new 65 148 (by kernel_rfl) (by kernel_rfl))), 33, #[.slice A10 m10 cap10, .slice A11 m11 cap11], ?_, ?_⟩
            · rw [run_call 33 _ _ rfl (by kernel_rfl)]
              have e149 : a.eval (.tmp 149) = .slice A10 m10 cap10 := (c.new 66 149 (by kernel_rfl) (by kernel_rfl))
              have e150 : a.eval (.tmp 150) = .slice A11 m11 cap11 := (c.new 67 150 (by kernel_rfl) (by kernel_rfl))
              simp [e149, e150]
            · refine (HU.out _ _ _ _ _ _ w (T.ev c.ev).gu (T.ev c.ev).gv).mono ?_
              rintro e w2 ⟨rfl, hE⟩
              exact ⟨_, rfl, hE, rfl⟩
          · refine op_value fun a w c => ⟨(wanted_plain rfl), _, run_pick_true rfl (c.new 65 148 (by kernel_rfl) (by kernel_rfl)) w, (c.new 68 151 (by kernel_rfl) (by kernel_rfl))⟩
          · refine op_value fun a w c => ⟨(wanted_plain rfl), _, run_move _ rfl w, (c.new 69 152 (by kernel_rfl) (by kernel_rfl))⟩
          · refine op_value fun a w c => ⟨(wanted_yes rfl (by kernel_rfl) (c.new 70 153 (by kernel_rfl) (by kernel_rfl))), _, run_move _ rfl w, (c.was 17 (by kernel_rfl) rfl)⟩
          · refine op_value fun a w c => ⟨(wanted_yes rfl (by kernel_rfl) (c.new 70 153 (by kernel_rfl) (by kernel_rfl))), _, run_move _ rfl w, (c.was 19 (by kernel_rfl) rfl)⟩
          · refine op_value fun a w c => ⟨(wanted_yes rfl (by kernel_rfl) (c.new 70 153 (by kernel_rfl) (by kernel_rfl))), .bool true, ?_, rfl⟩
            have e154 : a.eval (.tmp 154) = .int .i64 (e2 : Int) := (c.new 71 154 (by kernel_rfl) (by kernel_rfl))
            have e155 : a.eval (.tmp 155) = .int .i64 (e2 : Int) := (c.new 72 155 (by kernel_rfl) (by kernel_rfl))
            generalize a.eval = ρ at e154 e155 ⊢
            simp [execOp, e154, e155, go_sem]
          · refine op_value fun a w c => ⟨(wanted_plain rfl), _, run_pick_true rfl (c.new 70 153 (by kernel_rfl) (by kernel_rfl)) w, (c.new 73 156 (by kernel_rfl) (by kernel_rfl))⟩
          · refine op_value fun a w c => ⟨(wanted_plain rfl), _, run_move _ rfl w, (c.new 74 157 (by kernel_rfl) (by kernel_rfl))⟩
          · refine op_value fun a w c => ⟨(wanted_yes rfl (by kernel_rfl) (c.new 75 158 (by kernel_rfl) (by kernel_rfl))), _, run_move _ rfl w, (c.was 18 (by kernel_rfl) rfl)⟩
          · refine op_value fun a w c => ⟨(wanted_yes rfl (by kernel_rfl) (c.new 75 158 (by kernel_rfl) (by kernel_rfl))), _, run_move _ rfl w, (c.was 20 (by kernel_rfl) rfl)⟩
          · refine op_value fun a w c => ⟨(wanted_yes rfl (by kernel_rfl) (c.new 75 158 (by kernel_rfl) (by kernel_rfl))), .bool true, ?_, rfl⟩
            have e159 : a.eval (.tmp 159) = .int .i64 (q2 : Int) := (c.new 76 159 (by kernel_rfl) (by kernel_rfl))
            have e160 : a.eval (.tmp 160) = .int .i64 (q2 : Int) := (c.new 77 160 (by kernel_rfl) (by kernel_rfl))
            generalize a.eval = ρ at e159 e160 ⊢
            simp [execOp, e159, e160, go_sem]
          · refine op_value fun a w c => ⟨(wanted_plain rfl), _, run_pick_true rfl (c.new 75 158 (by kernel_rfl) (by kernel_rfl)) w, (c.new 78 161 (by kernel_rfl) (by kernel_rfl))⟩
          · refine op_value fun a w c => ⟨(wanted_plain rfl), _, run_move _ rfl w, (c.new 79 162 (by kernel_rfl) (by kernel_rfl))⟩
          · refine op_call fun a w c => ⟨(wanted_yes rfl (by kernel_rfl) (c.new 80 163 (by kernel_rfl) (by kernel_rfl))), 20, #[], ?_, ?_⟩
            · rw [run_call 20 _ _ rfl (by kernel_rfl)]
              simp
            · refine (HK.out w).mono ?_
              rintro e w2 ⟨rfl, hE⟩
              exact ⟨_, rfl, hE, rfl⟩
          · refine op_value fun a w c => ⟨(wanted_plain rfl), _, run_pick_true rfl (c.new 80 163 (by kernel_rfl) (by kernel_rfl)) w, (c.new 81 164 (by kernel_rfl) (by kernel_rfl))⟩
          · refine op_value fun a w c => ⟨(wanted_plain rfl), _, run_assign _ rfl w, (c.new 82 165 (by kernel_rfl) (by kernel_rfl))⟩
        intro sl w20 hEr hold hnew
        have f0 : sl 0 = .slice A0 m0 c0 := hold 0 (by kernel_rfl)
        have f1 : sl 1 = .slice A1 m1 c1 := hold 1 (by kernel_rfl)
        have f2 : sl 2 = .slice A2 m2 c2 := hold 2 (by kernel_rfl)
        have f3 : sl 3 = .string s := hold 3 (by kernel_rfl)
        have f11 : sl 11 = .pointer (some ⟨pw, 0, none⟩) := hold 11 (by kernel_rfl)
        have f15 : sl 15 = .slice A10 m10 cap10 := hold 15 (by kernel_rfl)
        have f16 : sl 16 = .slice A11 m11 cap11 := hold 16 (by kernel_rfl)
        have f17 : sl 17 = .int .i64 (e2 : Int) := hold 17 (by kernel_rfl)
        have f18 : sl 18 = .int .i64 (q2 : Int) := hold 18 (by kernel_rfl)
        have f19 : sl 19 = .int .i64 (e2 : Int) := hold 19 (by kernel_rfl)
        have f20 : sl 20 = .int .i64 (q2 : Int) := hold 20 (by kernel_rfl)
        have f21 : sl 21 = .int .i64 fo := hold 21 (by kernel_rfl)
        have f22 : sl 22 = .bool is := hold 22 (by kernel_rfl)
        have f23 : sl 23 = .int .i64 fo := hold 23 (by kernel_rfl)
        have f24 : sl 24 = .bool is := hold 24 (by kernel_rfl)
        have f10 : sl 10 = .bool true := hnew 83 10 (by kernel_rfl)
        have f83 : sl 83 = .slice A0 m0 c0 := hnew 0 83 (by kernel_rfl)
        have f84 : sl 84 = .bool r_ := hnew 1 84 (by kernel_rfl)
        have f85 : sl 85 = .slice A0 m0 c0 := hnew 2 85 (by kernel_rfl)
        have f86 : sl 86 = .bool r_ := hnew 3 86 (by kernel_rfl)
        have f87 : sl 87 = .bool true := hnew 4 87 (by kernel_rfl)
        have f88 : sl 88 = .bool true := hnew 5 88 (by kernel_rfl)
        have f89 : sl 89 = .slice A0 m0 c0 := hnew 6 89 (by kernel_rfl)
        have f90 : sl 90 = .slice A1 m1 c1 := hnew 7 90 (by kernel_rfl)
        have f91 : sl 91 = .bool x_ := hnew 8 91 (by kernel_rfl)
        have f92 : sl 92 = .slice A0 m0 c0 := hnew 9 92 (by kernel_rfl)
        have f93 : sl 93 = .slice A1 m1 c1 := hnew 10 93 (by kernel_rfl)
        have f94 : sl 94 = .bool x_ := hnew 11 94 (by kernel_rfl)
        have f95 : sl 95 = .bool true := hnew 12 95 (by kernel_rfl)
        have f96 : sl 96 = .bool true := hnew 13 96 (by kernel_rfl)
        have f97 : sl 97 = .bool true := hnew 14 97 (by kernel_rfl)
        have f98 : sl 98 = .slice A0 m0 c0 := hnew 15 98 (by kernel_rfl)
        have f99 : sl 99 = .slice A1 m1 c1 := hnew 16 99 (by kernel_rfl)
        have f100 : sl 100 = .bool y_ := hnew 17 100 (by kernel_rfl)
        have f101 : sl 101 = .slice A0 m0 c0 := hnew 18 101 (by kernel_rfl)
        have f102 : sl 102 = .slice A1 m1 c1 := hnew 19 102 (by kernel_rfl)
        have f103 : sl 103 = .bool y_ := hnew 20 103 (by kernel_rfl)
        have f104 : sl 104 = .bool true := hnew 21 104 (by kernel_rfl)
        have f105 : sl 105 = .bool true := hnew 22 105 (by kernel_rfl)
        have f106 : sl 106 = .bool true := hnew 23 106 (by kernel_rfl)
        have f107 : sl 107 = .slice A2 m2 c2 := hnew 24 107 (by kernel_rfl)
        have f108 : sl 108 = .slice A0 m0 c0 := hnew 25 108 (by kernel_rfl)
        have f109 : sl 109 = .bool f_ := hnew 26 109 (by kernel_rfl)
        have f110 : sl 110 = .slice A2 m2 c2 := hnew 27 110 (by kernel_rfl)
        have f111 : sl 111 = .slice A0 m0 c0 := hnew 28 111 (by kernel_rfl)
        have f112 : sl 112 = .bool f_ := hnew 29 112 (by kernel_rfl)
        have f113 : sl 113 = .bool true := hnew 30 113 (by kernel_rfl)
        have f114 : sl 114 = .bool true := hnew 31 114 (by kernel_rfl)
        have f115 : sl 115 = .bool true := hnew 32 115 (by kernel_rfl)
        have f116 : sl 116 = .slice A2 m2 c2 := hnew 33 116 (by kernel_rfl)
        have f117 : sl 117 = .int .i64 c_ := hnew 34 117 (by kernel_rfl)
        have f118 : sl 118 = .slice A2 m2 c2 := hnew 35 118 (by kernel_rfl)
        have f119 : sl 119 = .int .i64 c_ := hnew 36 119 (by kernel_rfl)
        have f120 : sl 120 = .bool true := hnew 37 120 (by kernel_rfl)
        have f121 : sl 121 = .bool true := hnew 38 121 (by kernel_rfl)
        have f122 : sl 122 = .bool true := hnew 39 122 (by kernel_rfl)
        have f123 : sl 123 = .string s := hnew 40 123 (by kernel_rfl)
        have f124 : sl 124 = .bool n_ := hnew 41 124 (by kernel_rfl)
        have f125 : sl 125 = .string s := hnew 42 125 (by kernel_rfl)
        have f126 : sl 126 = .bool n_ := hnew 43 126 (by kernel_rfl)
        have f127 : sl 127 = .bool true := hnew 44 127 (by kernel_rfl)
        have f128 : sl 128 = .bool true := hnew 45 128 (by kernel_rfl)
        have f129 : sl 129 = .bool true := hnew 46 129 (by kernel_rfl)
        have f130 : sl 130 = .int .i64 fo := hnew 47 130 (by kernel_rfl)
        have f131 : sl 131 = .int .i64 fo := hnew 48 131 (by kernel_rfl)
        have f132 : sl 132 = .bool true := hnew 49 132 (by kernel_rfl)
        have f133 : sl 133 = .bool true := hnew 50 133 (by kernel_rfl)
        have f134 : sl 134 = .bool true := hnew 51 134 (by kernel_rfl)
        have f135 : sl 135 = .bool is := hnew 52 135 (by kernel_rfl)
        have f136 : sl 136 = .bool is := hnew 53 136 (by kernel_rfl)
        have f137 : sl 137 = .bool true := hnew 54 137 (by kernel_rfl)
        have f138 : sl 138 = .bool true := hnew 55 138 (by kernel_rfl)
        have f139 : sl 139 = .bool true := hnew 56 139 (by kernel_rfl)
        have f140 : sl 140 = .pointer (some ⟨pw, 0, none⟩) := hnew 57 140 (by kernel_rfl)
        obtain ⟨A141, n141, cap141, f141, hB141⟩ := (hnew 58 141 (by kernel_rfl) : Holds (L) (sl 141) w20)
        have f142 : sl 142 = .string ⟨(L).toArray⟩ := hnew 59 142 (by kernel_rfl)
        have f143 : sl 143 = .slice A0 m0 c0 := hnew 60 143 (by kernel_rfl)
        obtain ⟨A144, n144, cap144, f144, hB144⟩ := (hnew 61 144 (by kernel_rfl) : Holds (L) (sl 144) w20)
        have f145 : sl 145 = .string ⟨(L).toArray⟩ := hnew 62 145 (by kernel_rfl)
        have f146 : sl 146 = .bool true := hnew 63 146 (by kernel_rfl)
        have f147 : sl 147 = .bool true := hnew 64 147 (by kernel_rfl)
        have f148 : sl 148 = .bool true := hnew 65 148 (by kernel_rfl)
        have f149 : sl 149 = .slice A10 m10 cap10 := hnew 66 149 (by kernel_rfl)
        have f150 : sl 150 = .slice A11 m11 cap11 := hnew 67 150 (by kernel_rfl)
        have f151 : sl 151 = .bool true := hnew 68 151 (by kernel_rfl)
        have f152 : sl 152 = .bool true := hnew 69 152 (by kernel_rfl)
        have f153 : sl 153 = .bool true := hnew 70 153 (by kernel_rfl)
        have f154 : sl 154 = .int .i64 (e2 : Int) := hnew 71 154 (by kernel_rfl)
        have f155 : sl 155 = .int .i64 (e2 : Int) := hnew 72 155 (by kernel_rfl)
        have f156 : sl 156 = .bool true := hnew 73 156 (by kernel_rfl)
        have f157 : sl 157 = .bool true := hnew 74 157 (by kernel_rfl)
        have f158 : sl 158 = .bool true := hnew 75 158 (by kernel_rfl)
        have f159 : sl 159 = .int .i64 (q2 : Int) := hnew 76 159 (by kernel_rfl)
        have f160 : sl 160 = .int .i64 (q2 : Int) := hnew 77 160 (by kernel_rfl)
        have f161 : sl 161 = .bool true := hnew 78 161 (by kernel_rfl)
        have f162 : sl 162 = .bool true := hnew 79 162 (by kernel_rfl)
        have f163 : sl 163 = .bool true := hnew 80 163 (by kernel_rfl)
        have f164 : sl 164 = .bool true := hnew 81 164 (by kernel_rfl)
        have f165 : sl 165 = .bool true := hnew 82 165 (by kernel_rfl)
        change Exit.then _ _ .normal ⟨#[sl 0, sl 1, sl 2, sl 3, sl 4, sl 5, sl 6, sl 7, sl 8, sl 9, sl 10, sl 11, sl 12, sl 13, sl 14, sl 15, sl 16, sl 17, sl 18, sl 19, sl 20, sl 21, sl 22, sl 23, sl 24, sl 25, sl 26, sl 27, sl 28, sl 29, sl 30, sl 31, sl 32, sl 33, sl 34, sl 35, sl 36, sl 37, sl 38, sl 39, sl 40, sl 41, sl 42, sl 43, sl 44, sl 45, sl 46, sl 47, sl 48, sl 49, sl 50, sl 51, sl 52, sl 53, sl 54, sl 55, sl 56, sl 57, sl 58, sl 59, sl 60, sl 61, sl 62, sl 63, sl 64, sl 65, sl 66, sl 67, sl 68, sl 69, sl 70, sl 71, sl 72, sl 73, sl 74, sl 75, sl 76, sl 77, sl 78, sl 79, sl 80, sl 81, sl 82, sl 83, sl 84, sl 85, sl 86, sl 87, sl 88, sl 89, sl 90, sl 91, sl 92, sl 93, sl 94, sl 95, sl 96, sl 97, sl 98, sl 99, sl 100, sl 101, sl 102, sl 103, sl 104, sl 105, sl 106, sl 107, sl 108, sl 109, sl 110, sl 111, sl 112, sl 113, sl 114, sl 115, sl 116, sl 117, sl 118, sl 119, sl 120, sl 121, sl 122, sl 123, sl 124, sl 125, sl 126, sl 127, sl 128, sl 129, sl 130, sl 131, sl 132, sl 133, sl 134, sl 135, sl 136, sl 137, sl 138, sl 139, sl 140, sl 141, sl 142, sl 143, sl 144, sl 145, sl 146, sl 147, sl 148, sl 149, sl 150, sl 151, sl 152, sl 153, sl 154, sl 155, sl 156, sl 157, sl 158, sl 159, sl 160, sl 161, sl 162, sl 163, sl 164, sl 165], _⟩ _
        simp only [f0, f1, f2, f3, f11, f15, f16, f17, f18, f19, f20, f21, f22, f23, f24, f10, f83, f84, f85, f86, f87, f88, f89, f90, f91, f92, f93, f94, f95, f96, f97, f98, f99, f100, f101, f102, f103, f104, f105, f106, f107, f108, f109, f110, f111, f112, f113, f114, f115, f116, f117, f118, f119, f120, f121, f122, f123, f124, f125, f126, f127, f128, f129, f130, f131, f132, f133, f134, f135, f136, f137, f138, f139, f140, f141, f142, f143, f144, f145, f146, f147, f148, f149, f150, f151, f152, f153, f154, f155, f156, f157, f158, f159, f160, f161, f162, f163, f164, f165]
        clear hold hnew
        go_wp2
        go_ret
        exact ⟨rfl, S.all.trans hEr⟩
end Go.Proofs.Ytkjodlngpdihhaa
