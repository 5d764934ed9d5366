/-
  The document's own Get (chapter 4): it gives what the program's Get gives, from the same bytes.
-/
import Derived.Test.YtkjodlngpdihhaaRefGet
namespace Go.Proofs.Ytkjodlngpdihhaa
open Go.RowKit
set_option linter.unusedVariables false
variable {p : Nat} {A : Option Addr} {n cap : Nat} {L : List UInt8} {why pos : Nat} {w w' : World}

theorem Rqs.over {g : Nat} {w3 w4 : World} (h : Rqs p A n cap L why pos w3) (h4 : But [g] w3 w4) (hp : p ≠ g) (hA : ∀ ad, A = some ad → ad.block ≠ g) : Rqs p A n cap L why pos w4 :=
  h.but h4 (by simpa using hp) (fun ad e => by simpa using hA ad e)

set_option maxRecDepth 100000 in
set_option maxHeartbeats 3200000 in
theorem refr_get (w : World) (h : Rqs p A n cap L why pos w) :
    Calls Try.prog 50 #[.pointer (some ⟨p, 0, none⟩)] w fun e w' => e = .returned (vv (rdVal L why pos).1.1 (rdVal L why pos).1.2.1 ⟨(rdVal L why pos).1.2.2.toArray⟩) ∧
      Rqs p A n cap L (rdVal L why pos).2.1 (rdVal L why pos).2.2 w' ∧ But [p] w w' := by
  have HC := Lib.hid (fun w1 (h1 : Rqs p A n cap L why pos w1) => refr_byte w1 h1)
  have hp := h.lt
  have hA : ∀ ad, A = some ad → ad.block ≠ w.heap.size := fun ad e => by have := (h.apart ad e).2; omega
  have hg : w.heap.size ∉ [p] := by simp; omega
  have hpg : p ≠ w.heap.size := by omega
  obtain ⟨w0, hw0⟩ : ∃ w0, w0 = w.alloc (.cells #[.int .i64 0, .int .i64 0, .string ⟨#[]⟩] 61) := ⟨_, rfl⟩
  have B : Boxed w.heap.size 0 0 ⟨#[]⟩ w0 := hw0 ▸ Boxed.new 0 0 ⟨#[]⟩ w
  have hE0 : Ev w w0 := hw0 ▸ Ev.alloc w _
  obtain ⟨T, hT⟩ : ∃ T, T = rdTake L why pos 1 := ⟨_, rfl⟩
  have hterr : T.2.1 ≠ 0 → T.1 = [] := by rw [hT]; exact fun h => take_err h (by decide)
  have hG : rdRaw L why pos = if leVal T.1 = 1 then ((1, wrap64 (leVal (rdTake L T.2.1 T.2.2 8).1 : Int), []), (rdTake L T.2.1 T.2.2 8).2)
    else if leVal T.1 = 2 then ((2, 0, (rdText L T.2.1 T.2.2 40).1), (rdText L T.2.1 T.2.2 40).2)
    else ((0, 0, []), rdStop T.2.1 T.2.2 12 T.2.2) := by rw [hT]; rfl
  unfold rdVal
  rw [hG]
  clear hG
  rw [← hT] at HC
  obtain ⟨M, e1, q1⟩ := T
  simp only at *
  clear hT
  by_cases he : e1 = 0
  · subst he
    clear hterr
    generalize leVal M = k at *
    by_cases h1 : k = 1
    · subst h1
      simp only [if_pos]
      have HL := Lib.hid (fun w1 (h1 : Rqs p A n cap L 0 q1 w1) => refr_long w1 h1)
      generalize rdTake L 0 q1 8 = N at *
      obtain ⟨NL, e2, q2⟩ := N
      simp only at *
      generalize wrap64 (leVal NL : Int) = x at *
      by_cases he2 : e2 = 0
      · subst he2
        simp only [if_pos]
        go_enter Try.func50, Try.ntmps50
        go_wp2_with (first | (rw [← hw0]; (with_reducible refine (HC.out w0 (h.ev hE0)).mono ?_); rintro y w1 ⟨rfl, hR1, hB1⟩; have B1 := B.but hB1 hg; have f2 := hR1.flag; simp only [show ((0 : Nat) != 0) = false from rfl] at f2) | ((with_reducible refine (HL.out _ hR1).mono ?_); rintro y w2 ⟨rfl, hR2, hB2⟩; have B2 := B1.but hB2 hg; have f3 := hR2.flag; simp only [show ((0 : Nat) != 0) = false from rfl] at f3; have c0 := B2.c0; have c1 := B2.c1; have c2 := B2.c2; have f0 := B2.f 0; have f1 := B2.f 1; have f2' := B2.f 2))
        have BS := B2.set 1 x ⟨#[]⟩
        refine bodyPost_ret (ret_val rfl _ _ w.heap.size 1 x ⟨#[]⟩ rfl BS.1.blk) rfl ?_
        exact ⟨rfl, hR2.over BS.2 hpg hA, But.over hE0 (hB1.then hB2) BS.2 (Nat.le_refl _)⟩
      · have hb : (e2 != 0) = true := bne_iff_ne.2 he2
        simp only [if_neg he2]
        go_enter Try.func50, Try.ntmps50
        go_wp2_with (first | (rw [← hw0]; (with_reducible refine (HC.out w0 (h.ev hE0)).mono ?_); rintro y w1 ⟨rfl, hR1, hB1⟩; have B1 := B.but hB1 hg; have f2 := hR1.flag; simp only [show ((0 : Nat) != 0) = false from rfl] at f2) | ((with_reducible refine (HL.out _ hR1).mono ?_); rintro y w2 ⟨rfl, hR2, hB2⟩; have B2 := B1.but hB2 hg; have f3 := hR2.flag; rw [hb] at f3; have c0 := B2.c0; have c1 := B2.c1; have c2 := B2.c2; have f0 := B2.f 0; have f1 := B2.f 1; have f2' := B2.f 2))
        have BS := B2.set 0 0 ⟨#[]⟩
        refine bodyPost_ret (ret_val rfl _ _ w.heap.size 0 0 ⟨#[]⟩ rfl BS.1.blk) rfl ?_
        exact ⟨rfl, hR2.over BS.2 hpg hA, But.over hE0 (hB1.then hB2) BS.2 (Nat.le_refl _)⟩
    · by_cases h2 : k = 2
      · subst h2
        simp only [if_pos, if_neg (show ¬ (2 = 1) by decide)]
        have HL := Lib.hid (fun w1 (h1 : Rqs p A n cap L 0 q1 w1) => refr_text 40 w1 h1 (by decide))
        generalize rdText L 0 q1 40 = N at *
        obtain ⟨NL, e2, q2⟩ := N
        simp only at *
        by_cases he2 : e2 = 0
        · subst he2
          simp only [if_pos]
          go_enter Try.func50, Try.ntmps50
          go_wp2_with (first | (rw [← hw0]; (with_reducible refine (HC.out w0 (h.ev hE0)).mono ?_); rintro y w1 ⟨rfl, hR1, hB1⟩; have B1 := B.but hB1 hg; have f2 := hR1.flag; simp only [show ((0 : Nat) != 0) = false from rfl] at f2) | (refine (HL.out _ hR1).mono ?_; rintro y w2 ⟨rfl, hR2, hB2⟩; have B2 := B1.but hB2 hg; have f3 := hR2.flag; simp only [show ((0 : Nat) != 0) = false from rfl] at f3; have c0 := B2.c0; have c1 := B2.c1; have c2 := B2.c2; have f0 := B2.f 0; have f1 := B2.f 1; have f2' := B2.f 2))
          have BS := B2.set 2 0 ⟨NL.toArray⟩
          refine bodyPost_ret (ret_val rfl _ _ w.heap.size 2 0 ⟨NL.toArray⟩ rfl BS.1.blk) rfl ?_
          exact ⟨rfl, hR2.over BS.2 hpg hA, But.over hE0 (hB1.then hB2) BS.2 (Nat.le_refl _)⟩
        · have hb : (e2 != 0) = true := bne_iff_ne.2 he2
          simp only [if_neg he2]
          go_enter Try.func50, Try.ntmps50
          go_wp2_with (first | (rw [← hw0]; (with_reducible refine (HC.out w0 (h.ev hE0)).mono ?_); rintro y w1 ⟨rfl, hR1, hB1⟩; have B1 := B.but hB1 hg; have f2 := hR1.flag; simp only [show ((0 : Nat) != 0) = false from rfl] at f2) | (refine (HL.out _ hR1).mono ?_; rintro y w2 ⟨rfl, hR2, hB2⟩; have B2 := B1.but hB2 hg; have f3 := hR2.flag; rw [hb] at f3; have c0 := B2.c0; have c1 := B2.c1; have c2 := B2.c2; have f0 := B2.f 0; have f1 := B2.f 1; have f2' := B2.f 2))
          have BS := B2.set 0 0 ⟨#[]⟩
          refine bodyPost_ret (ret_val rfl _ _ w.heap.size 0 0 ⟨#[]⟩ rfl BS.1.blk) rfl ?_
          exact ⟨rfl, hR2.over BS.2 hpg hA, But.over hE0 (hB1.then hB2) BS.2 (Nat.le_refl _)⟩
      · simp only [if_neg h1, if_neg h2]
        have HL := Lib.hid (fun w1 (h1 : Rqs p A n cap L 0 q1 w1) => ref_fail 12 w1 h1 (by decide) (.inl rfl))
        rw [show rdStop 0 q1 12 q1 = (12, q1) from rfl] at *
        simp only [if_neg (show ¬ (12 = 0) by decide)] at *
        go_enter Try.func50, Try.ntmps50
        go_wp2_with (first | (rw [← hw0]; (with_reducible refine (HC.out w0 (h.ev hE0)).mono ?_); rintro y w1 ⟨rfl, hR1, hB1⟩; have B1 := B.but hB1 hg; have f2 := hR1.flag; simp only [show ((0 : Nat) != 0) = false from rfl] at f2) | (refine (HL.out _ hR1).mono ?_; rintro y w2 ⟨rfl, hR2, hB2⟩; have B2 := B1.but hB2 hg; have c0 := B2.c0; have c1 := B2.c1; have c2 := B2.c2; have f0 := B2.f 0; have f1 := B2.f 1; have f2' := B2.f 2))
        have BS := B2.set 0 0 ⟨#[]⟩
        refine bodyPost_ret (ret_val rfl _ _ w.heap.size 0 0 ⟨#[]⟩ rfl BS.1.blk) rfl ?_
        exact ⟨rfl, hR2.over BS.2 hpg hA, But.over hE0 (hB1.then hB2) BS.2 (Nat.le_refl _)⟩
  · have hM := hterr he
    subst hM
    have hb : (e1 != 0) = true := bne_iff_ne.2 he
    simp only [leVal, if_neg (show ¬ (0 = 1) by decide), if_neg (show ¬ (0 = 2) by decide), rdStop, if_neg he]
    clear hterr
    go_enter Try.func50, Try.ntmps50
    go_wp2_with (first | (rw [← hw0]; (with_reducible refine (HC.out w0 (h.ev hE0)).mono ?_); rintro y w1 ⟨rfl, hR1, hB1⟩; have B1 := B.but hB1 hg; have f3 := hR1.flag; rw [hb] at f3; have c0 := B1.c0; have c1 := B1.c1; have c2 := B1.c2; have f0 := B1.f 0; have f1 := B1.f 1; have f2 := B1.f 2))
    have BS := B1.set 0 0 ⟨#[]⟩
    refine bodyPost_ret (ret_val rfl _ _ w.heap.size 0 0 ⟨#[]⟩ rfl BS.1.blk) rfl ?_
    exact ⟨rfl, hR1.over BS.2 hpg hA, But.over hE0 hB1 BS.2 (Nat.le_refl _)⟩
end Go.Proofs.Ytkjodlngpdihhaa
