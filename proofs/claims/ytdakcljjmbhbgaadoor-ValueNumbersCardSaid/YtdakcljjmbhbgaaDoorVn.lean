/-
  The walk of ValueNumbers.
-/
import Derived.Test.YtdakcljjmbhbgaaDoorKnown4
import Derived.Laws.MakeOwn
namespace Go.Proofs.YtdakcljjmbhbgaaDoor
open Go.RowKit
set_option linter.unusedVariables false

theorem made_zeros (k : Nat) : (madeCells (Value.int .u8 0).cells (k * 1)).toList = bvs (List.replicate k 0) := by
  have h : (Value.int .u8 0).cells = #[Value.int .u8 0] := rfl
  rw [h, toList_madeCells_one, Nat.mul_one]
  simp [bvs, bv]

theorem show1 : showV 2 0 ⟨#[127, 31, 128]⟩ = [34, 92, 55, 102, 92, 49, 102, 92, 56, 48, 34] := by simp [showV, rightV, quoteB, showB, plainB, hexB, ByteArray.size]
theorem show2 : showV 1 (-9223372036854775808) ⟨#[]⟩ = [45, 57, 50, 50, 51, 51, 55, 50, 48, 51, 54, 56, 53, 52, 55, 55, 53, 56, 48, 56] := by simp [showV, rightV, Lib.itoa, Lib.decDigits]
theorem show3 : showV 2 0 ⟨#[92, 0, 126]⟩ = [34, 92, 53, 99, 92, 48, 48, 126, 34] := by simp [showV, rightV, quoteB, showB, plainB, hexB, ByteArray.size]
theorem get1 : rdVal [3] 0 0 = ((0, 0, []), 12, 1) := by decide
theorem get2 : rdVal [2, 41, 0] 0 0 = ((0, 0, []), 3, 1) := by decide
set_option maxRecDepth 100000 in
set_option maxHeartbeats 4000000 in
theorem vn_walk (w : World) (hT : Tab w) :
    Calls Tryd.prog 3 #[] w fun e w' => e = .returned (.bool true) ∧ Ev w w' := by
  obtain ⟨i0, hi, hz0, hz1, hz2⟩ := info_parts Tryd.infoU8
  obtain ⟨long, hlong⟩ : ∃ long : ByteArray, long = ⟨(List.replicate 41 (0 : UInt8)).toArray⟩ := ⟨_, rfl⟩
  have hls : long.size = 41 := by rw [hlong]; rfl
  have HLONG := Lib.hid hlong
  clear hlong
  have HN1 := Lib.hid (fun w a (h : Bs w (some a) 1 1 [3]) => new_reader (some a) 1 1 [3] w h (by omega))
  have HN2 := Lib.hid (fun w a (h : Bs w (some a) 3 3 [2, 41, 0]) => new_reader (some a) 3 3 [2, 41, 0] w h (by omega))
  have HG1 := fun p A cap w (h : Rd p A 1 cap [3] 0 0 w) => value_get w h
  rw [get1] at HG1
  have HG1 := Lib.hid HG1
  have HE1 := fun p A cap w (h : Rd p A 1 cap [3] 12 1 w) => reader_end w h
  simp only [show rdEnd [3] 12 1 = (12, 1) from rfl] at HE1
  have HE1 := Lib.hid HE1
  have HG2 := fun p A cap w (h : Rd p A 3 cap [2, 41, 0] 0 0 w) => value_get w h
  rw [get2] at HG2
  have HG2 := Lib.hid HG2
  have HE2 := fun p A cap w (h : Rd p A 3 cap [2, 41, 0] 3 1 w) => reader_end w h
  simp only [show rdEnd [2, 41, 0] 3 1 = (3, 1) from rfl] at HE2
  have HE2 := Lib.hid HE2
  have HN9 := Lib.hid (fun w => value_num 1 w)
  have HP := Lib.hid (fun w => value_put_nil 1 1 ⟨#[]⟩ w)
  have HS1 := Lib.hid (fun w => value_str ⟨#[127, 31, 128]⟩ w)
  have HW1 := fun w (h : Tab w) => value_show 2 0 ⟨#[127, 31, 128]⟩ w h (by omega) (by omega)
  rw [show1] at HW1
  have HW1 := Lib.hid HW1
  have HGN := Lib.hid (fun w => value_get_nil w)
  have q1 := eqGuard_val .eql
  have HR1 := fun w => value_right 0 0 ⟨#[]⟩ w
  rw [show rightV 0 0 ⟨#[]⟩ = false from rfl] at HR1
  have HR1 := Lib.hid HR1
  have HR2 := fun w => value_right 1 0 ⟨#[120]⟩ w
  rw [show rightV 1 0 ⟨#[120]⟩ = false by simp [rightV]] at HR2
  have HR2 := Lib.hid HR2
  have HS3 := Lib.hid (fun w => value_str long w)
  have HR3 := fun w => value_right 2 0 long w
  rw [show rightV 2 0 long = false by simp [rightV, hls]] at HR3
  have HR3 := Lib.hid HR3
  have HS4 := Lib.hid (fun w => value_str (long.extract 0 40) w)
  have HR4 := fun w => value_right 2 0 (long.extract 0 40) w
  rw [show rightV 2 0 (long.extract 0 40) = true by simp [rightV, ByteArray.size_extract]; omega] at HR4
  have HR4 := Lib.hid HR4
  have HR5 := fun w => value_right 2 1 ⟨#[]⟩ w
  rw [show rightV 2 1 ⟨#[]⟩ = false by simp [rightV]] at HR5
  have HR5 := Lib.hid HR5
  have HW6 := fun w (h : Tab w) => value_show 0 0 ⟨#[]⟩ w h (by omega) (by omega)
  rw [show showV 0 0 ⟨#[]⟩ = [63] from rfl] at HW6
  have HW6 := Lib.hid HW6
  have HN7 := Lib.hid (fun w => value_num (-9223372036854775808) w)
  have HW7 := fun w (h : Tab w) => value_show 1 (-9223372036854775808) ⟨#[]⟩ w h (by omega) (by omega)
  rw [show2] at HW7
  have HW7 := Lib.hid HW7
  have HS8 := Lib.hid (fun w => value_str ⟨#[92, 0, 126]⟩ w)
  have HW8 := fun w (h : Tab w) => value_show 2 0 ⟨#[92, 0, 126]⟩ w h (by omega) (by omega)
  rw [show3] at HW8
  have HW8 := Lib.hid HW8
  have HL9 := fun w => value_less 1 1 ⟨#[]⟩ 1 1 ⟨#[]⟩ w
  rw [show lessV 1 1 ⟨#[]⟩ 1 1 ⟨#[]⟩ = false by simp [lessV]] at HL9
  have HL9 := Lib.hid HL9
  have HK := Lib.hid (fun w (h : Tab w) => known_any w h)
  have q2 : ∀ w, (binOp .eql 26 (vv 0 0 ⟨#[]⟩) (vv 0 0 ⟨#[]⟩)).run Tryd.prog w = .ok (.bool true) w := fun w => by rw [run_eq_val, sameV_self]
  go_enter Tryd.func3, Tryd.ntmps3
  go_wp2_with (first | (at_make; refine wpList_make_full _ rfl _ _ 22 rfl w.heap.size 5 i0 (.int .u8 0) 1 Tryd.underlying22 hi hz0 hz1 .i64 .i64 _ _ 41 rfl rfl (by simp) (by simp) (by rw [hz2]; omega) (by unfold maxLen; omega) (Nat.le_refl _) ?_; intro w1 hown1 hgrow1; have hE1 : Ev w w1 := (Below.refl _ _).grown hgrow1 (Nat.le_refl _) (fun k hk => by cases hk); rw [made_zeros] at hown1; have hB1 := Bs.own hown1; have hst := hB1.str (P := Tryd.prog) 22 9 5 Tryd.underlying22 Tryd.underlying5 Tryd.underlying9; rw [← HLONG.out] at hst; clear hown1 hgrow1; have HB2 := Lib.hid (Bs.made (w := w1) [3] #[.int .u8 3] rfl (by simp))) | ((with_reducible refine (HN1.out _ _ HB2.out).mono ?_); rintro y w2 ⟨p1, A1, cap1, rfl, hR1, hp1, hA1, hE2⟩; have E2 := (hE1.trans (Ev.alloc _ _)).trans hE2; have hlt1 := hR1.lt; have HB3 : Hid (Bs (w2.alloc (.cells #[.int .u8 2, .int .u8 41, .int .u8 0] 5)) (some ⟨w2.heap.size, 0, none⟩) 3 3 [2, 41, 0]) := Lib.hid (Bs.made (w := w2) [2, 41, 0] #[.int .u8 2, .int .u8 41, .int .u8 0] rfl (by simp)); have hpw : w.heap.size ≤ p1 := (by have := hE1.size; simp at hp1; omega)) | ((with_reducible refine (HN2.out _ _ HB3.out).mono ?_); rintro y w3 ⟨p2, A2, cap2, rfl, hR2, hp2, hA2, hE3⟩; have E3 := (E2.trans (Ev.alloc _ _)).trans hE3; have hR1b := (hR1.ev (Ev.alloc _ _)).ev hE3; have hpp : p1 < p2 := (by simp at hp2; omega); have hA2p : ∀ ad, A2 = some ad → ad.block ∉ [p1] := (fun ad e => by have := (hA2 ad e).1; simp at this ⊢; omega)) | ((with_reducible refine (HG1.out _ _ _ _ hR1b).mono ?_); rintro y w4 ⟨rfl, hR1c, hB4⟩; have hR2b := hR2.but hB4 (by simp; omega) hA2p; have E4 : Ev w w4 := (((But.of_ev (K := []) E3).trans hB4 (fun x hx => .inr (by simp at hx; omega))).ev (by simp)); have BX := Boxed.new 0 0 ⟨#[]⟩ w4; have hR1d := hR1c.ev (Ev.alloc w4 (.cells #[.int .i64 0, .int .i64 0, .string ⟨#[]⟩] 26)); have hR2c := hR2b.ev (Ev.alloc w4 (.cells #[.int .i64 0, .int .i64 0, .string ⟨#[]⟩] 26)); have hlt4 := hR2b.lt) | ((with_reducible refine (HE1.out _ _ _ _ hR1d).mono ?_); rintro y w5 ⟨rfl, hq5⟩; have hE5 := Ev.of_drewN hq5; have E5 := (E4.trans (Ev.alloc _ _)).trans hE5; have BX5 := BX.ev hE5; have hR2d := hR2c.ev hE5; clear hq5) | ((with_reducible refine (HG2.out _ _ _ _ hR2d).mono ?_); rintro y w6 ⟨rfl, hR2e, hB6⟩; have E6 : Ev w w6 := (((But.of_ev (K := []) E5).trans hB6 (fun x hx => .inr (by simp at hx; omega))).ev (by simp)); have BX6 := BX5.but hB6 (by simp; omega)) | ((with_reducible refine (HE2.out _ _ _ _ hR2e).mono ?_); rintro y w7 ⟨rfl, hq7⟩; have hE7 := Ev.of_drewN hq7; have E7 := E6.trans hE7; have BX7 := BX6.ev hE7; clear hq7) | ((with_reducible refine (HN9.out w7).mono ?_); rintro y w8 ⟨rfl, hE8⟩) | ((with_reducible refine (HP.out w8).mono ?_); rintro y w9 ⟨rfl, hE9⟩; have E9 := (E7.trans hE8).trans hE9; have BX9 := (BX7.ev hE8).ev hE9) | ((with_reducible refine (HS1.out w9).mono ?_); rintro y w10 ⟨rfl, hE10⟩; have E10 := E9.trans hE10; have BX10 := BX9.ev hE10) | ((with_reducible refine (HW1.out w10 (hT.ev E10)).mono ?_); rintro y w11 ⟨rfl, hE11⟩; have E11 := E10.trans hE11; have BX11 := BX10.ev hE11) | ((with_reducible refine (HGN.out w11).mono ?_); rintro y w12 ⟨rfl, hE12⟩; have E12 := E11.trans hE12; have BX12 := BX11.ev hE12; have c0 := BX12.c0; have c1 := BX12.c1; have c2 := BX12.c2; have hlt12 := BX12.lt; have hne12 : ¬ (w4.heap.size = w12.heap.size) := (by omega)) | ((with_reducible refine (HR1.out (w12.alloc (.cells #[.int .i64 0, .int .i64 0, .string ⟨#[]⟩] 26))).mono ?_); rintro y w13 ⟨rfl, hE13⟩; have E13 := (E12.trans (Ev.alloc _ _)).trans hE13) | ((with_reducible refine (HR2.out w13).mono ?_); rintro y w14 ⟨rfl, hE14⟩; have E14 := E13.trans hE14) | ((with_reducible refine (HS3.out w14).mono ?_); rintro y w15 ⟨rfl, hE15⟩; have E15 := E14.trans hE15) | ((with_reducible refine (HR3.out w15).mono ?_); rintro y w16 ⟨rfl, hE16⟩; have E16 := E15.trans hE16) | ((with_reducible refine (HS4.out w16).mono ?_); rintro y w17 ⟨rfl, hE17⟩; have E17 := E16.trans hE17) | ((with_reducible refine (HR4.out w17).mono ?_); rintro y w18 ⟨rfl, hE18⟩; have E18 := E17.trans hE18) | ((with_reducible refine (HR5.out w18).mono ?_); rintro y w19 ⟨rfl, hE19⟩; have E19 := E18.trans hE19) | ((with_reducible refine (HW6.out w19 (hT.ev E19)).mono ?_); rintro y w20 ⟨rfl, hE20⟩; have E20 := E19.trans hE20) | ((with_reducible refine (HN7.out w20).mono ?_); rintro y w21 ⟨rfl, hE21⟩; have E21 := E20.trans hE21) | ((with_reducible refine (HW7.out w21 (hT.ev E21)).mono ?_); rintro y w22 ⟨rfl, hE22⟩; have E22 := E21.trans hE22) | ((with_reducible refine (HS8.out w22).mono ?_); rintro y w23 ⟨rfl, hE23⟩; have E23 := E22.trans hE23) | ((with_reducible refine (HW8.out w23 (hT.ev E23)).mono ?_); rintro y w24 ⟨rfl, hE24⟩; have E24 := E23.trans hE24) | ((with_reducible refine (HN9.out w24).mono ?_); rintro y w25 ⟨rfl, hE25⟩; have E25 := E24.trans hE25) | ((with_reducible refine (HN9.out w25).mono ?_); rintro y w26 ⟨rfl, hE26⟩; have E26 := E25.trans hE26) | ((with_reducible refine (HL9.out w26).mono ?_); rintro y w27 ⟨rfl, hE27⟩; have E27 := E26.trans hE27) | ((with_reducible refine (HK.out w27 (hT.ev E27)).mono ?_); rintro y w28 ⟨rfl, hE28⟩; have E28 := E27.trans hE28))
  go_ret
  exact ⟨rfl, E28⟩
end Go.Proofs.YtdakcljjmbhbgaaDoor
