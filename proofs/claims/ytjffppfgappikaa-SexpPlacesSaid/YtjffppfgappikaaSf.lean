/-
  Package sexp: tokens.
-/
import Derived.Test.YtjffppfgappikaaSe
namespace Go.Proofs.Ytjffppfgappikaa
open Go.RowKit
set_option linter.unusedVariables false

set_option maxRecDepth 100000 in
theorem sx_clone (s : ByteArray) (w : World) (hs : s.size ≤ 100000) :
    Calls Try.prog 19 #[.string s] w fun e w' => e = .returned (.string s) ∧ Ev w w' := by
  have HC := Lib.hid (fun w1 => Try.stringslite_Clone s w1 (by omega))
  go_enter Try.func19, Try.ntmps19
  go_wp2_with (first | ((with_reducible refine (HC.out _).mono ?_); rintro x w1 ⟨rfl, hE1⟩))
  go_ret
  exact ⟨rfl, hE1⟩

set_option maxRecDepth 100000 in
set_option maxHeartbeats 2000000 in
theorem sx_scan (s0 : ByteArray) (w : World) (h1s : 1 ≤ s0.size) (hs : s0.size ≤ 100000) :
    Calls Try.prog 11 #[.string s0] w fun e w' => e = .returned (tkv (sxScan s0.data.toList)) ∧ Ev w w' := by
  obtain ⟨Y, hY⟩ : ∃ Y, Y = sxScan s0.data.toList := ⟨_, rfl⟩
  rw [← hY]
  have hat := sx_at s0 0 h1s
  have hTX := fun w1 => sx_text s0 w1 h1s hs
  have hNU := fun w1 => sx_number s0 w1 hs
  have hRU := fun w1 => sx_run_isLetter s0 w1 (by omega)
  have hll : s0.data.toList.length = s0.size := by rw [Array.length_toList]; rfl
  obtain ⟨c, hc⟩ : ∃ c, s0[0] = c := ⟨_, rfl⟩
  have hidx : ∀ hh, s0[0]'hh = c := fun _ => hc
  rw [hc] at hat
  clear hc
  obtain ⟨q, hl⟩ : ∃ q, s0.data.toList = c :: q := by
    cases h : s0.data.toList with
    | nil => rw [h] at hat; simp at hat
    | cons x q => rw [h] at hat; simp at hat; exact ⟨q, by rw [hat]⟩
  rw [hl] at hY hTX hNU hRU
  rw [hl] at hll
  have hrl := sxRun_le sxLetter (c :: q)
  rw [hll] at hrl
  have hDI := sx_isDigit c
  have hLE := sx_isLetter c
  have hsl : ∀ r, (s0.extract 0 r).data.toList = (c :: q).take r := fun r => by rw [Lib.extract_eq, hl]; simp
  simp only [List.drop_succ_cons, List.drop_zero] at hTX
  clear hat hl
  obtain ⟨w0, hw0⟩ : ∃ w0, w0 = w.alloc (.cells (tkc (sxWrong 0 0)) 36) := ⟨_, rfl⟩
  have B0 : TkBox w.heap.size (sxWrong 0 0) w0 := hw0 ▸ TkBox.new (sxWrong 0 0) w
  have hE0 : Ev w w0 := hw0 ▸ Ev.alloc w _
  have hw0' : w.alloc (.cells #[.int .i64 0, .string ⟨#[]⟩, .int .i64 0, .slice none 0 0, .int .i64 0, .int .i64 0, .int .i64 0, .int .i64 0] 36) = w0 := hw0.symm
  clear hw0
  by_cases h40 : c.toNat = 40
  · have HSP : Hid (Y = ⟨1, [], 0, 1, 0, 0⟩) := Lib.hid (by rw [hY]; simp [sxScan, h40])
    have e1 : (c.toNat : Int) = 40 := by omega
    have B4 := B0
    have E4 := hE0
    obtain ⟨c0, c1, c2, c3, c4, c5, c6, c7⟩ := B4.cs
    obtain ⟨f0, f1, f2, f3, f4, f5, f6, f7⟩ := B4.fs
    clear hTX hNU hRU hDI hLE hsl hY hrl hll
    go_enter Try.func11, Try.ntmps11
    go_wp2
    rw [tkSet_fold]; refine bodyPost_ret (tk_done _ B4 _ _ _ _ _ _ rfl rfl) rfl ?_; exact ⟨by rw [HSP.out]; rfl, E4.over1 (tkSet_but _ _ _ _ _ _ _ _) (Nat.le_refl _)⟩
  · have n40 : (c.toNat == 40) = false := beq_eq_false_iff_ne.2 h40
    have e1 : ¬ ((c.toNat : Int) = 40) := by omega
    have e1' : ((c.toNat : Int) == 40) = false := beq_eq_false_iff_ne.2 e1
    by_cases h41 : c.toNat = 41
    · have HSP : Hid (Y = ⟨-1, [], 0, 1, 0, 0⟩) := Lib.hid (by rw [hY]; simp [sxScan, h41])
      have e2 : (c.toNat : Int) = 41 := by omega
      have B4 := B0
      have E4 := hE0
      obtain ⟨c0, c1, c2, c3, c4, c5, c6, c7⟩ := B4.cs
      obtain ⟨f0, f1, f2, f3, f4, f5, f6, f7⟩ := B4.fs
      clear hTX hNU hRU hDI hLE hsl hY hrl hll
      go_enter Try.func11, Try.ntmps11
      go_wp2
      rw [tkSet_fold]; refine bodyPost_ret (tk_done _ B4 _ _ _ _ _ _ rfl rfl) rfl ?_; exact ⟨by rw [HSP.out]; rfl, E4.over1 (tkSet_but _ _ _ _ _ _ _ _) (Nat.le_refl _)⟩
    · have n41 : (c.toNat == 41) = false := beq_eq_false_iff_ne.2 h41
      have e2 : ¬ ((c.toNat : Int) = 41) := by omega
      have e2' : ((c.toNat : Int) == 41) = false := beq_eq_false_iff_ne.2 e2
      by_cases h34 : c.toNat = 34
      · have hY2 : Y = sxTextGo [] q 1 := by rw [hY]; simp [sxScan, h34]
        have e3 : (c.toNat : Int) = 34 := by omega
        rw [← hY2] at hTX
        clear hY hY2 hNU hRU hDI hLE hsl hrl hll
        obtain ⟨k, ys, n, z, y, f⟩ := Y
        have HW := Lib.hid hTX
        simp only [tkv, tkc] at HW
        clear hTX
        go_enter Try.func11, Try.ntmps11
        go_wp2_with (first | ((with_reducible refine (HW.out _).mono ?_); rintro e w4 ⟨rfl, hE4⟩; have B4 := B0.ev hE4; have E4 := hE0.trans hE4; obtain ⟨c0, c1, c2, c3, c4, c5, c6, c7⟩ := B4.cs; obtain ⟨f0, f1, f2, f3, f4, f5, f6, f7⟩ := B4.fs))
        rw [tkSet_fold]; refine bodyPost_ret (tk_done _ B4 _ _ _ _ _ _ rfl rfl) rfl ?_; exact ⟨rfl, E4.over1 (tkSet_but _ _ _ _ _ _ _ _) (Nat.le_refl _)⟩
      · have n34 : (c.toNat == 34) = false := beq_eq_false_iff_ne.2 h34
        have e3 : ¬ ((c.toNat : Int) = 34) := by omega
        have e3' : ((c.toNat : Int) == 34) = false := beq_eq_false_iff_ne.2 e3
        obtain ⟨dg, hdg⟩ : ∃ dg, sxDigit c = dg := ⟨_, rfl⟩
        rw [hdg] at hDI
        have HD := Lib.hid hDI
        clear hTX hDI
        by_cases hnum : c.toNat = 45 ∨ dg = true
        · have hY2 : Y = sxNumber (c :: q) := by
            rw [hY]
            rcases hnum with h | h
            · simp [sxScan, h]
            · simp [sxScan, n40, n41, n34, hdg, h]
          rw [← hY2] at hNU
          clear hY hY2 hRU hLE hsl hrl hll hdg
          obtain ⟨k, ys, n, z, y, f⟩ := Y
          have HW := Lib.hid hNU
          simp only [tkv, tkc] at HW
          clear hNU
          by_cases h45 : c.toNat = 45
          · have e4 : (c.toNat : Int) = 45 := by omega
            clear hnum
            go_enter Try.func11, Try.ntmps11
            go_wp2_with (first | ((with_reducible refine (HW.out _).mono ?_); rintro e w4 ⟨rfl, hE4⟩; have B4 := B0.ev hE4; have E4 := hE0.trans hE4; obtain ⟨c0, c1, c2, c3, c4, c5, c6, c7⟩ := B4.cs; obtain ⟨f0, f1, f2, f3, f4, f5, f6, f7⟩ := B4.fs))
            rw [tkSet_fold]; refine bodyPost_ret (tk_done _ B4 _ _ _ _ _ _ rfl rfl) rfl ?_; exact ⟨rfl, E4.over1 (tkSet_but _ _ _ _ _ _ _ _) (Nat.le_refl _)⟩
          · have e4 : ¬ ((c.toNat : Int) = 45) := by omega
            have e4' : ((c.toNat : Int) == 45) = false := beq_eq_false_iff_ne.2 e4
            obtain rfl : dg = true := by
              rcases hnum with h | h
              · exact absurd h h45
              · exact h
            clear hnum
            go_enter Try.func11, Try.ntmps11
            go_wp2_with (first | ((with_reducible refine (HD.out _).mono ?_); rintro e w3 ⟨rfl, rfl⟩) | ((with_reducible refine (HW.out _).mono ?_); rintro e w4 ⟨rfl, hE4⟩; have B4 := B0.ev hE4; have E4 := hE0.trans hE4; obtain ⟨c0, c1, c2, c3, c4, c5, c6, c7⟩ := B4.cs; obtain ⟨f0, f1, f2, f3, f4, f5, f6, f7⟩ := B4.fs))
            rw [tkSet_fold]; refine bodyPost_ret (tk_done _ B4 _ _ _ _ _ _ rfl rfl) rfl ?_; exact ⟨rfl, E4.over1 (tkSet_but _ _ _ _ _ _ _ _) (Nat.le_refl _)⟩
        · have n45 : (c.toNat == 45) = false := beq_eq_false_iff_ne.2 (fun h => hnum (.inl h))
          have e4 : ¬ ((c.toNat : Int) = 45) := fun h => hnum (.inl (by omega))
          have e4' : ((c.toNat : Int) == 45) = false := beq_eq_false_iff_ne.2 e4
          obtain rfl : dg = false := by
            cases dg
            · rfl
            · exact absurd (.inr rfl) hnum
          obtain ⟨lt, hlt⟩ : ∃ lt, sxLetter c = lt := ⟨_, rfl⟩
          rw [hlt] at hLE
          have HLE := Lib.hid hLE
          clear hLE hNU hnum
          cases lt
          · have HSP : Hid (Y = sxWrong 12 0) := Lib.hid (by rw [hY]; simp [sxScan, n40, n41, n34, n45, hdg, hlt])
            have HW := fun w1 => sx_wrong_raw 12 0 w1
            rw [show (((0 : Nat) : Int)) = 0 from rfl] at HW
            have HW := Lib.hid HW
            clear hY hRU hsl hrl hll hdg hlt
            go_enter Try.func11, Try.ntmps11
            go_wp2_with (first | ((with_reducible refine (HD.out _).mono ?_); rintro e w3 ⟨rfl, rfl⟩) | ((with_reducible refine (HLE.out _).mono ?_); rintro e w3 ⟨rfl, rfl⟩) | ((with_reducible refine (HW.out _).mono ?_); rintro e w4 ⟨rfl, hE4⟩; have B4 := B0.ev hE4; have E4 := hE0.trans hE4; obtain ⟨c0, c1, c2, c3, c4, c5, c6, c7⟩ := B4.cs; obtain ⟨f0, f1, f2, f3, f4, f5, f6, f7⟩ := B4.fs))
            rw [tkSet_fold]; refine bodyPost_ret (tk_done _ B4 _ _ _ _ _ _ rfl rfl) rfl ?_; exact ⟨by rw [HSP.out]; rfl, E4.over1 (tkSet_but _ _ _ _ _ _ _ _) (Nat.le_refl _)⟩
          · have hY2 : Y = ⟨2, (c :: q).take (sxRun sxLetter (c :: q)), 0, sxRun sxLetter (c :: q), 0, 0⟩ := by rw [hY]; simp [sxScan, n40, n41, n34, n45, hdg, hlt]
            generalize sxRun sxLetter (c :: q) = r at *
            obtain ⟨x, hx⟩ : ∃ x : ByteArray, x = s0.extract 0 r := ⟨_, rfl⟩
            have hxs : s0.extract 0 r = x := hx.symm
            have hxl : x.data.toList = (c :: q).take r := by rw [hx, hsl]
            have hxz : x.size ≤ 100000 := by
              have : x.data.toList.length = x.size := by rw [Array.length_toList]; rfl
              rw [← this, hxl, List.length_take]
              omega
            have HSP : Hid (Y = ⟨2, x.data.toList, 0, r, 0, 0⟩) := Lib.hid (by rw [hY2, hxl])
            have HCL := Lib.hid (fun w1 => sx_clone x w1 hxz)
            have HRU := Lib.hid hRU
            clear hY hY2 hRU hsl hdg hlt hxl hxz hx
            go_enter Try.func11, Try.ntmps11
            go_wp2_with (first | ((with_reducible refine (HD.out _).mono ?_); rintro e w3 ⟨rfl, rfl⟩) | ((with_reducible refine (HLE.out _).mono ?_); rintro e w3 ⟨rfl, rfl⟩) | ((with_reducible refine (HRU.out _).mono ?_); rintro e w3 ⟨rfl, rfl⟩) | ((with_reducible refine (HCL.out _).mono ?_); rintro e w4 ⟨rfl, hE4⟩; have B4 := B0.ev hE4; have E4 := hE0.trans hE4; obtain ⟨c0, c1, c2, c3, c4, c5, c6, c7⟩ := B4.cs; obtain ⟨f0, f1, f2, f3, f4, f5, f6, f7⟩ := B4.fs))
            rw [tkSet_fold]; refine bodyPost_ret (tk_done _ B4 _ _ _ _ _ _ rfl rfl) rfl ?_; exact ⟨by rw [HSP.out]; rfl, E4.over1 (tkSet_but _ _ _ _ _ _ _ _) (Nat.le_refl _)⟩
end Go.Proofs.Ytjffppfgappikaa
