/-
  Chapter 4's runs.
-/
import Derived.Test.YtdakcljjmbhbgaaDoorRows
import Derived.Test.YtdakcljjmbhbgaaDoorShow
import Derived.Test.YtdakcljjmbhbgaaDoorArg
namespace Go.Proofs.YtdakcljjmbhbgaaDoor
open Go.RowKit
set_option linter.unusedVariables false

set_option maxRecDepth 100000 in
theorem known_any (w : World) (hT : Tab w) :
    Calls Tryd.prog 16 #[] w fun e w' => e = .returned (.bool true) ∧ Ev w w' := by
  have l1 : lessV 1 9 ⟨#[]⟩ 2 0 ⟨#[]⟩ = true := by simp [lessV, rightV, ByteArray.size]
  have l2 : lessV 2 0 ⟨#[97]⟩ 2 0 ⟨#[97, 98]⟩ = true := by simp [lessV, rightV, Op.bytesLess, ByteArray.size]
  have N9 := Lib.hid (fun w => value_num 9 w)
  have S0 := Lib.hid (fun w => value_str ⟨#[]⟩ w)
  have L1 := fun w => value_less 1 9 ⟨#[]⟩ 2 0 ⟨#[]⟩ w
  rw [l1] at L1
  have L1 := Lib.hid L1
  have S1 := Lib.hid (fun w => value_str ⟨#[97]⟩ w)
  have S2 := Lib.hid (fun w => value_str ⟨#[97, 98]⟩ w)
  have L2 := fun w => value_less 2 0 ⟨#[97]⟩ 2 0 ⟨#[97, 98]⟩ w
  rw [l2] at L2
  have L2 := Lib.hid L2
  have N5 := Lib.hid (fun w => value_num (-5) w)
  have e1 : showV 1 (-5) ⟨#[]⟩ = [45, 53] := by simp [showV, rightV, Lib.itoa, Lib.decDigits]
  have H1 := Lib.hid (fun w (h : Tab w) => value_show 1 (-5) ⟨#[]⟩ w h (by omega) (by omega))
  have S3 := Lib.hid (fun w => value_str ⟨#[97, 34, 98]⟩ w)
  have e2 : showV 2 0 ⟨#[97, 34, 98]⟩ = [34, 97, 92, 50, 50, 98, 34] := by simp [showV, rightV, quoteB, showB, plainB, hexB, ByteArray.size]
  have H2 := Lib.hid (fun w (h : Tab w) => value_show 2 0 ⟨#[97, 34, 98]⟩ w h (by omega) (by omega))
  rw [e1] at H1
  rw [e2] at H2
  clear e1 e2 l1 l2
  go_enter Tryd.func16, Tryd.ntmps16
  go_wp2_with (first | ((with_reducible refine (N9.out w).mono ?_); rintro y w1 ⟨rfl, E1⟩) | ((with_reducible refine (S0.out w1).mono ?_); rintro y w2 ⟨rfl, E2⟩) | ((with_reducible refine (L1.out w2).mono ?_); rintro y w3 ⟨rfl, E3⟩) | ((with_reducible refine (S1.out w3).mono ?_); rintro y w4 ⟨rfl, E4⟩) | ((with_reducible refine (S2.out w4).mono ?_); rintro y w5 ⟨rfl, E5⟩) | ((with_reducible refine (L2.out w5).mono ?_); rintro y w6 ⟨rfl, E6⟩) | ((with_reducible refine (N5.out w6).mono ?_); rintro y w7 ⟨rfl, E7⟩; have F7 := (((((E1.trans E2).trans E3).trans E4).trans E5).trans E6).trans E7) | ((with_reducible refine (H1.out w7 (hT.ev F7)).mono ?_); rintro y w8 ⟨rfl, E8⟩) | ((with_reducible refine (S3.out w8).mono ?_); rintro y w9 ⟨rfl, E9⟩; have F9 := (F7.trans E8).trans E9) | ((with_reducible refine (H2.out w9 (hT.ev F9)).mono ?_); rintro y w10 ⟨rfl, E10⟩))
  go_ret
  exact ⟨rfl, F9.trans E10⟩
end Go.Proofs.YtdakcljjmbhbgaaDoor
