/-
  The contracts of bytes.Equal, bytes.Clone and sum.Open.
-/
import Derived.Test.YtmhgpbohkdndpaaSeal
namespace Go.Proofs.Ytmhgpbohkdndpaa
open Go.RowKit

theorem equal_any (A B : Option Addr) (n m cap cap' : Nat) (l k : List UInt8) (w : World) (h : Bs w A n cap l) (h' : Bs w B m cap' k) (b : Bool) (hb : (l == k) = b) :
    Calls Try.prog 17 #[.slice A n cap, .slice B m cap'] w fun e w' => e = .returned (.bool b) ∧ w = w' := by
  have e1 := h.str (P := Try.prog) 22 9 5 Try.underlying22 Try.underlying5 Try.underlying9
  have e2 := h'.str (P := Try.prog) 22 9 5 Try.underlying22 Try.underlying5 Try.underlying9
  clear h h'
  go_enter Try.func17, Try.ntmps17
  go_wp2
  go_ret
  exact ⟨rfl, rfl⟩

theorem clone_any (A : Option Addr) (n cap : Nat) (l : List UInt8) (w : World) (h : Bs w A n cap l) (hsz : n ≤ 140737488355000) :
    Calls Try.prog 18 #[.slice A n cap] w (RetFresh l w) := by
  obtain ⟨i0, hi, hz0, hz1, hz2⟩ := info_parts Try.infoU8
  have hl := h.len
  cases A with
  | none =>
    obtain ⟨h0, h1⟩ := h.nil rfl
    subst h0; subst h1
    have hnil : l = [] := List.eq_nil_of_length_eq_zero hl
    subst hnil
    have hnn := Lib.run_eql_slice_nil (P := Try.prog) w 22 5 none 0 0 0 0 Try.underlying22
    clear h hl
    go_enter Try.func18, Try.ntmps18
    go_wp2
    go_ret
    exact ⟨_, rfl, Fresh.none_ (Below.refl _ _)⟩
  | some ad =>
    have hnn := Lib.run_eql_slice_nil (P := Try.prog) w 22 5 (some ad) n cap 0 0 Try.underlying22
    have hbl : (bvs l).length = n * 1 := by rw [bvs_length, hl]; omega
    have HB := Lib.hid hbl
    have hcells := Lib.hid ((h.below ((Below.refl w.heap.size w).alloc (Nat.le_refl _) (.cells #[] 5))).cells ad rfl)
    clear hl hbl
    go_enter Try.func18, Try.ntmps18
    go_wp2_with (first
      | (at_builtin; refine wpList_append_own _ rfl _ _ 22 rfl w.heap.size 5 i0 (.int .u8 0) 1 1 Try.underlying22 hi hz0 hz1 hz2 rfl (by decide) _ 0 [] rfl (World.ownsRow_made w #[] 0 (Nat.le_refl _) (by decide) rfl) ad n cap (bvs l) rfl HB.out hcells.out (bvs_one l) (by unfold maxLen; omega) (by omega) (by simp) ?_; intro v' w1 hown hgrow _)
      | fail)
    simp only [Nat.zero_add, List.nil_append] at hown
    have hb : Below w.heap.size w w1 := ((Below.refl w.heap.size w).alloc (Nat.le_refl _) _).grown hgrow (by simp) (fun k hk => by cases hk; exact Nat.le_refl _)
    go_wp2
    go_ret
    exact ⟨_, rfl, Fresh.mk (by rw [h.len]; exact hown) hb⟩
/-- Is c what Seal gave of something? -/
def isSealed (c : List UInt8) : Bool := decide (4 ≤ c.length) && (c == seal_ (c.drop 4))
/-- What Open gives back. -/
def opened (c : List UInt8) : List UInt8 := if isSealed c then c.drop 4 else []

theorem Fresh.later {l : List UInt8} {w0 w w' : World} {v : Value} (h0 : Below w0.heap.size w0 w) (h : Fresh l w w' v) : Fresh l w0 w' v := by
  obtain ⟨A, cap, e, ho, hb⟩ := h
  exact ⟨A, cap, e, ⟨ho.1, ho.2.elim Or.inl (fun ⟨g, c, cur, hv, hg, r⟩ => Or.inr ⟨g, c, cur, hv, Nat.le_trans h0.size hg, r⟩)⟩, h0.trans (hb.mono h0.size)⟩

set_option maxHeartbeats 400000 in
theorem open_any (A : Option Addr) (n cap : Nat) (l : List UInt8) (w : World) (h : Bs w A n cap l) (hsz : n ≤ 140737488355000) :
    Calls Try.prog 7 #[.slice A n cap] w (RetFreshB (opened l) (isSealed l) w) := by
  have hle := h.le
  have hmx := h.max
  by_cases h4 : n < 4
  · have hs : isSealed l = false := by unfold isSealed; rw [h.len, decide_eq_false (by omega)]; rfl
    rw [opened, hs, if_neg (by simp)]
    clear h hs
    go_enter Try.func7, Try.ntmps7
    go_wp2
    go_ret2
    exact ⟨_, rfl, Fresh.none_ (Below.refl _ _)⟩
  · have h4' : 4 ≤ n := by omega
    have hf := h.from_ h4'
    generalize hA' : from_ A cap 4 = A' at hf
    unfold from_ at hA'
    obtain ⟨r, hr⟩ : ∃ r, (l == seal_ (l.drop 4)) = r := ⟨_, rfl⟩
    have HI := Lib.hid (show isSealed l = r by unfold isSealed; rw [h.len, decide_eq_true h4', Bool.true_and]; exact hr)
    have HR := Lib.hid hr
    clear hr
    go_enter Try.func7, Try.ntmps7
    go_wp2_with fail
    refine (seal_any A' (n - 4) (cap - 4) (l.drop 4) w hf (by omega)).mono ?_
    rintro e w1 ⟨v, rfl, A1, cap1, rfl, hown1, hb1⟩
    have hs1 : Bs w1 A1 _ cap1 (seal_ (l.drop 4)) := Bs.own hown1
    have h1 := h.below hb1
    have hf1 := hf.below hb1
    go_wp2_with fail
    refine (equal_any A A1 n _ cap cap1 l (seal_ (l.drop 4)) w1 h1 hs1 r HR.out).mono ?_
    rintro e w2 ⟨rfl, rfl⟩
    cases r
    · go_wp2_with fail
      go_ret2
      rw [opened, HI.out, if_neg (by simp)]
      exact ⟨_, rfl, Fresh.none_ hb1⟩
    · go_wp2_with fail
      refine (clone_any A' (n - 4) (cap - 4) (l.drop 4) w1 hf1 (by omega)).mono ?_
      rintro e w3 ⟨v, rfl, hF⟩
      go_wp2_with fail
      go_ret2
      rw [opened, HI.out, if_pos rfl]
      exact ⟨_, rfl, hF.later hb1⟩
end Go.Proofs.Ytmhgpbohkdndpaa
