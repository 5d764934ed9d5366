/-
  The contract of the document's own ref.Open of chapter 2.
-/
import Derived.Test.YtmhgpbohkdndpaaRef2
namespace Go.Proofs.Ytmhgpbohkdndpaa
open Go.RowKit

set_option maxHeartbeats 400000 in
theorem refOpen_any (A : Option Addr) (n cap : Nat) (l : List UInt8) (w : World) (h : Bs w A n cap l) (hsz : n ≤ 140737488355000) :
    Calls Try.prog 12 #[.slice A n cap] w (RetFreshB (opened l) (isSealed l) w) := by
  have hle := h.le
  have hmx := h.max
  by_cases h4 : n < 4
  · have hs : isSealed l = false := by unfold isSealed; rw [h.len, decide_eq_false (by omega)]; rfl
    rw [opened, hs, if_neg (by simp)]
    clear h hs
    go_enter Try.func12, Try.ntmps12
    go_wp2
    go_ret2
    exact ⟨_, rfl, Fresh.none_ (Below.refl _ _)⟩
  · have h4' : 4 ≤ n := by omega
    have hf := h.from_ h4'
    generalize hA' : from_ A cap 4 = A' at hf
    unfold from_ at hA'
    obtain ⟨r, hr⟩ : ∃ r, (l == seal_ (l.drop 4)) = r := ⟨_, rfl⟩
    have HI := Lib.hid (show isSealed l = r by unfold isSealed; rw [h.len, decide_eq_true h4', Bool.true_and]; exact hr)
    have HR := Lib.hid hr
    clear hr
    have hown := World.ownsRow_made (base := w.heap.size) (e := 5) (size := 1) w #[] 0 (Nat.le_refl _) (by decide) rfl
    rw [show ([] : List Value) = bvs [] from rfl] at hown
    go_enter Try.func12, Try.ntmps12
    go_wp2_with (first
      | (at_builtin; refine wpList_append_bytes rfl _ _ rfl Try.underlying22 Try.infoU8 w.heap.size _ 0 [] rfl hown A' (n - 4) (cap - 4) (l.drop 4) rfl (hf.below ((Below.refl _ _).alloc (Nat.le_refl _) _)) (by omega) (by simp) ?_; intro v' w1 hown1 hgrow1)
      | fail)
    have hb1 : Below w.heap.size w w1 := ((Below.refl w.heap.size w).alloc (Nat.le_refl _) _).grown hgrow1 (by simp) (fun k hk => by cases hk; exact Nat.le_refl _)
    simp only [Nat.zero_add, List.nil_append] at hown1
    obtain ⟨A1, cap1, rfl⟩ : ∃ A1 cap1, v' = .slice A1 (n - 4) cap1 := by
      rcases hown1.2 with ⟨rfl, hn⟩ | ⟨g, cap, cur, rfl, _⟩
      · exact ⟨none, 0, by rw [hn]⟩
      · exact ⟨_, _, rfl⟩
    have hx1 := Bs.own hown1
    have h1 := h.below hb1
    clear hgrow1 hown
    go_wp2
    have hmix : Try.prog.follows .mixedOrders = true := by kernel_rfl
    obtain ⟨r', hr'⟩ : ∃ r', (!(seal_ (l.drop 4) == l)) = r' := ⟨_, rfl⟩
    refine wp_region_slots hmix [fun v _ => v = .slice A1 (n - 4) cap1, Holds (seal_ (l.drop 4)), fun v _ => v = .string ⟨(seal_ (l.drop 4)).toArray⟩, fun v _ => v = .slice A n cap, fun v _ => v = .string ⟨(l).toArray⟩, fun v _ => v = .bool r']
      19 rfl (by kernel_rfl) ⟨mono_eq _, Holds.mono _, mono_eq _, mono_eq _, mono_eq _, mono_eq _, trivial⟩ ?_ ?_
    · refine ops_cons 0 ?_ (ops_cons 1 ?_ (ops_cons 2 ?_ (ops_cons 3 ?_ (ops_cons 4 ?_ (ops_cons 5 ?_ (ops_nil 6))))))
      · refine op_value fun a w c => ⟨(wanted_plain rfl), _, run_move _ rfl w, (c.was 4 (by kernel_rfl) rfl)⟩
      · refine op_call fun a w c => ⟨(wanted_plain rfl), 14, #[.slice A1 (n - 4) cap1], ?_, ?_⟩
        · rw [run_call 14 _ _ rfl (by kernel_rfl)]
          have e12 : a.eval (.tmp 12) = .slice A1 (n - 4) cap1 := (c.new 0 12 (by kernel_rfl) (by kernel_rfl))
          simp [e12]
        · refine (refSeal_any _ _ _ _ _ (hx1.below c.ev) (by omega)).mono ?_
          rintro e w2 ⟨v, rfl, hF⟩
          exact ⟨v, rfl, hF.ev, hF.holds⟩
      · refine op_value fun a w c => ⟨(wanted_plain rfl), _, run_str rfl Try.underlying22 Try.underlying5 Try.underlying9 rfl (c.new 1 13 (by kernel_rfl) (by kernel_rfl) : Holds (seal_ (l.drop 4)) _ _), rfl⟩
      · refine op_value fun a w c => ⟨(wanted_plain rfl), _, run_move _ rfl w, (c.was 0 (by kernel_rfl) rfl)⟩
      · refine op_value fun a w c => ⟨(wanted_plain rfl), _, run_str rfl Try.underlying22 Try.underlying5 Try.underlying9 (c.new 3 15 (by kernel_rfl) (by kernel_rfl) : a.eval (.tmp 15) = .slice A n cap) ⟨_, _, _, rfl, h1.below c.ev⟩, rfl⟩
      · refine op_value fun a w c => ⟨(wanted_plain rfl), .bool r', ?_, rfl⟩
        have e14 : a.eval (.tmp 14) = .string ⟨(seal_ (l.drop 4)).toArray⟩ := c.new 2 14 (by kernel_rfl) (by kernel_rfl)
        have e16 : a.eval (.tmp 16) = .string ⟨l.toArray⟩ := c.new 4 16 (by kernel_rfl) (by kernel_rfl)
        generalize a.eval = ρ at e14 e16 ⊢
        simp [execOp, e14, e16, go_sem, hr']
    · intro s w2 hE hold hnew
      have f0 : s 0 = .slice A n cap := hold 0 (by kernel_rfl)
      have f2 : s 2 = .slice none 0 0 := hold 2 (by kernel_rfl)
      have f3 : s 3 = .bool false := hold 3 (by kernel_rfl)
      have f4 : s 4 = .slice A1 (n - 4) cap1 := hold 4 (by kernel_rfl)
      have f12 : s 12 = .slice A1 (n - 4) cap1 := hnew 0 12 (by kernel_rfl)
      obtain ⟨A13, n13, cap13, f13, hB13⟩ := (hnew 1 13 (by kernel_rfl) : Holds (seal_ (l.drop 4)) (s 13) w2)
      have f14 : s 14 = .string ⟨(seal_ (l.drop 4)).toArray⟩ := hnew 2 14 (by kernel_rfl)
      have f15 : s 15 = .slice A n cap := hnew 3 15 (by kernel_rfl)
      have f16 : s 16 = .string ⟨(l).toArray⟩ := hnew 4 16 (by kernel_rfl)
      have f17 : s 17 = .bool r' := hnew 5 17 (by kernel_rfl)
      change Exit.then _ _ .normal ⟨#[s 0, s 1, s 2, s 3, s 4, s 5, s 6, s 7, s 8, s 9, s 10, s 11, s 12, s 13, s 14, s 15, s 16, s 17, s 18], _⟩ _
      simp only [f0, f2, f3, f4, f12, f13, f14, f15, f16, f17]
      have HR' := Lib.hid hr'
      clear hr' hnew hold
      generalize s 1 = u1
      generalize s 5 = u5
      generalize s 6 = u6
      generalize s 7 = u7
      generalize s 8 = u8
      generalize s 9 = u9
      generalize s 10 = u10
      generalize s 11 = u11
      generalize s 18 = u18
      have hrr : r' = !r := by
        rw [← HR'.out, ← HR.out]
        have : (seal_ (l.drop 4) == l) = (l == seal_ (l.drop 4)) := by rw [Bool.eq_iff_iff, beq_iff_eq, beq_iff_eq]; exact eq_comm
        rw [this]
      subst hrr
      have hbw := hb1.trans (Below.mono hE hb1.size)
      cases r
      · go_wp2
        go_ret2
        rw [opened, HI.out, if_neg (by simp)]
        exact ⟨_, rfl, Fresh.none_ hbw⟩
      · go_wp2
        go_ret2
        rw [opened, HI.out, if_pos rfl]
        refine ⟨_, rfl, Fresh.mk ?_ hbw⟩
        have hl4 : (l.drop 4).length = n - 4 := by rw [List.length_drop, h.len]
        rw [hl4]
        exact own_ev hown1 hE

end Go.Proofs.Ytmhgpbohkdndpaa
