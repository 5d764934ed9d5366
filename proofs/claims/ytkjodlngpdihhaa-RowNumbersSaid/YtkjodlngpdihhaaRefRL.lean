/-
  The document's own Right and Less (chapter 4).
-/
import Derived.Test.YtkjodlngpdihhaaVal
import Derived.Test.YtkjodlngpdihhaaArg
namespace Go.Proofs.Ytkjodlngpdihhaa
open Go.RowKit
set_option linter.unusedVariables false

theorem empty_iff (s : ByteArray) : (s = ⟨#[]⟩) ↔ s.toList.isEmpty = true := by
  rw [List.isEmpty_iff]
  constructor
  · rintro rfl; simp
  · intro h
    exact toList_inj (by simpa using h)

set_option maxRecDepth 100000 in
set_option maxHeartbeats 1600000 in
theorem refr_right (k n : Int) (s : ByteArray) (w : World) :
    Calls Try.prog 51 #[vv k n s] w fun e w' => e = .returned (.bool (rightV k n s)) ∧ Ev w w' := by
  by_cases h1 : k = 1
  · subst h1
    by_cases hs : s = ⟨#[]⟩
    · subst hs
      go_enter Try.func51, Try.ntmps51
      go_wp2
      go_ret
      exact ⟨by simp [rightV], Ev.alloc _ _⟩
    · have he : s.toList.isEmpty = false := by
        cases h : s.toList.isEmpty
        · rfl
        · exact absurd ((empty_iff s).2 h) hs
      have hr : rightV 1 n s = false := by simp [rightV, he]
      rw [hr]
      go_enter Try.func51, Try.ntmps51
      go_wp2
      go_ret
      exact ⟨rfl, Ev.alloc _ _⟩
  · by_cases h2 : k = 2
    · subst h2
      by_cases h3 : n = 0
      · subst h3
        by_cases h4 : (s.size : Int) ≤ 40
        · have hr : rightV 2 0 s = true := by simp [rightV]; omega
          rw [hr]
          go_enter Try.func51, Try.ntmps51
          go_wp2
          go_ret
          exact ⟨rfl, Ev.alloc _ _⟩
        · have hr : rightV 2 0 s = false := by simp [rightV]; omega
          rw [hr]
          go_enter Try.func51, Try.ntmps51
          go_wp2
          go_ret
          exact ⟨rfl, Ev.alloc _ _⟩
      · have hr : rightV 2 n s = false := by simp [rightV, h3]
        rw [hr]
        go_enter Try.func51, Try.ntmps51
        go_wp2
        go_ret
        exact ⟨rfl, Ev.alloc _ _⟩
    · have hr : rightV k n s = false := by simp [rightV, h1, h2]
      rw [hr]
      go_enter Try.func51, Try.ntmps51
      go_wp2
      go_ret
      exact ⟨rfl, Ev.alloc _ _⟩

set_option maxRecDepth 100000 in
set_option maxHeartbeats 1600000 in
theorem refr_less (k n : Int) (s : ByteArray) (k' n' : Int) (s' : ByteArray) (w : World) :
    Calls Try.prog 54 #[vv k n s, vv k' n' s'] w fun e w' => e = .returned (.bool (lessV k n s k' n' s')) ∧ Ev w w' := by
  have hR := Lib.hid (fun w1 => refr_right k n s w1)
  have hR' := Lib.hid (fun w1 => refr_right k' n' s' w1)
  have hE : lessV k n s k' n' s' = if rightV k n s && rightV k' n' s' then (if k = k' then (if k = 1 then decide (n < n') else Op.bytesLess s.toList s'.toList) else k == 1) else false := rfl
  rw [hE]
  clear hE
  generalize rightV k n s = r at *
  generalize rightV k' n' s' = r' at *
  obtain ⟨w0, hw0, B, B', hE0⟩ := Boxed.two k n s k' n' s' w
  have c0 := B.c0; have c1 := B.c1; have c2 := B.c2; have d0 := B'.c0; have d1 := B'.c1; have d2 := B'.c2
  go_enter Try.func54, Try.ntmps54
  cases r
  · go_wp2_with (first | ((with_reducible refine (hR.out _).mono ?_); rintro x w1 ⟨rfl, hE1⟩; rw [← hw0] at hE1))
    go_ret
    exact ⟨rfl, hE0.trans hE1⟩
  · cases r'
    · go_wp2_with (first | ((with_reducible refine (hR.out _).mono ?_); rintro x w1 ⟨rfl, hE1⟩; rw [← hw0] at hE1; have d0 := (B'.ev hE1).c0; have d1 := (B'.ev hE1).c1; have d2 := (B'.ev hE1).c2) | ((with_reducible refine (hR'.out _).mono ?_); rintro x w2 ⟨rfl, hE2⟩))
      go_ret
      exact ⟨rfl, (hE0.trans hE1).trans hE2⟩
    · by_cases hk : k = k'
      · subst hk
        by_cases h1 : k = 1
        · subst h1
          go_wp2_with (first | ((with_reducible refine (hR.out _).mono ?_); rintro x w1 ⟨rfl, hE1⟩; rw [← hw0] at hE1; have B1' := B'.ev hE1; have d0 := B1'.c0; have d1 := B1'.c1; have d2 := B1'.c2) | ((with_reducible refine (hR'.out _).mono ?_); rintro x w2 ⟨rfl, hE2⟩; have B2 := (B.ev hE1).ev hE2; have B2' := B1'.ev hE2; have c0 := B2.c0; have c1 := B2.c1; have c2 := B2.c2; have d0 := B2'.c0; have d1 := B2'.c1; have d2 := B2'.c2))
          go_ret
          exact ⟨by simp, (hE0.trans hE1).trans hE2⟩
        · go_wp2_with (first | ((with_reducible refine (hR.out _).mono ?_); rintro x w1 ⟨rfl, hE1⟩; rw [← hw0] at hE1; have B1' := B'.ev hE1; have d0 := B1'.c0; have d1 := B1'.c1; have d2 := B1'.c2) | ((with_reducible refine (hR'.out _).mono ?_); rintro x w2 ⟨rfl, hE2⟩; have B2 := (B.ev hE1).ev hE2; have B2' := B1'.ev hE2; have c0 := B2.c0; have c1 := B2.c1; have c2 := B2.c2; have d0 := B2'.c0; have d1 := B2'.c1; have d2 := B2'.c2))
          go_ret
          exact ⟨by simp, (hE0.trans hE1).trans hE2⟩
      · by_cases h1 : k = 1
        · subst h1
          go_wp2_with (first | ((with_reducible refine (hR.out _).mono ?_); rintro x w1 ⟨rfl, hE1⟩; rw [← hw0] at hE1; have B1' := B'.ev hE1; have d0 := B1'.c0; have d1 := B1'.c1; have d2 := B1'.c2) | ((with_reducible refine (hR'.out _).mono ?_); rintro x w2 ⟨rfl, hE2⟩; have B2 := (B.ev hE1).ev hE2; have B2' := B1'.ev hE2; have c0 := B2.c0; have c1 := B2.c1; have c2 := B2.c2; have d0 := B2'.c0; have d1 := B2'.c1; have d2 := B2'.c2))
          go_ret
          exact ⟨by simp, (hE0.trans hE1).trans hE2⟩
        · go_wp2_with (first | ((with_reducible refine (hR.out _).mono ?_); rintro x w1 ⟨rfl, hE1⟩; rw [← hw0] at hE1; have B1' := B'.ev hE1; have d0 := B1'.c0; have d1 := B1'.c1; have d2 := B1'.c2) | ((with_reducible refine (hR'.out _).mono ?_); rintro x w2 ⟨rfl, hE2⟩; have B2 := (B.ev hE1).ev hE2; have B2' := B1'.ev hE2; have c0 := B2.c0; have c1 := B2.c1; have c2 := B2.c2; have d0 := B2'.c0; have d1 := B2'.c1; have d2 := B2'.c2))
          go_ret
          exact ⟨by simp, (hE0.trans hE1).trans hE2⟩
end Go.Proofs.Ytkjodlngpdihhaa
