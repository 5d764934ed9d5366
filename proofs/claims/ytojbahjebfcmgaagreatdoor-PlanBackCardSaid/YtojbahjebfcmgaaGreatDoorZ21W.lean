/-
  Texts that belong together: The document's own expressions: Read. The document's own expressions: Right.
-/
import Derived.BigRegion
import Derived.Test.YtojbahjebfcmgaaGreatDoorZ17W
import Derived.Test.YtojbahjebfcmgaaGreatDoorZ8W
namespace Go.Proofs.YtojbahjebfcmgaaGreatDoor
open Go.RowKit
set_option linter.unusedVariables false

theorem Tryz.sizeExpr : (Tryz.prog.info? 57).map (·.size) = some 4 := by kernel_rfl
/-- An expression and why there is none. -/
def RxOut (R : XRes) (w : World) (e : Ending) (w' : World) : Prop :=
  ∃ x : M, e = .returned (.tuple #[.agg #[.int .i64 x.kind, .string ⟨x.s.toArray⟩, .int .i64 x.n, .slice x.A x.kids.length x.cap], .int .i64 R.2.1, .int .i64 (R.2.2 : Int)]) ∧ x.t = R.1 ∧ Lx w.heap.size [] w' x ∧ Ev w w'
/-- In the midst of the operands: the expression's box is ge. -/
structure RxSt (w1 : World) (ge : Nat) (S : By) (A : Option Addr) (n cap : Nat) (L : List M) (w : World) : Prop where
  box : Bx 57 ge #[.int .i64 4, .string ⟨S.toArray⟩, .int .i64 0, .slice A n cap] w
  own : Ow 57 4 ec (ge + 1) w (.slice A n cap) L
  len : L.length = n
  lies : ∀ x ∈ L, Lx (ge + 1) (foot (.slice A n cap)) w x
  ev : Ev w1 w
  ge_ : w1.heap.size ≤ ge
theorem RxSt.init (w1 : World) (S : By) : RxSt w1 w1.heap.size S none 0 0 [] (w1.alloc (.cells #[.int .i64 4, .string ⟨S.toArray⟩, .int .i64 0, .slice none 0 0] 57)) :=
  ⟨Bx.new _ _ w1, Ow.nil_ _, rfl, (fun x hx => by cases hx), Ev.alloc _ _, Nat.le_refl _⟩
theorem RxSt.next {w1 wr wq w2 : World} {ge n cap : Nat} {S : By} {A : Option Addr} {L : List M} {x : M} {v2 : Value} (h : RxSt w1 ge S A n cap L wr) (hE : Ev wr wq) (hx : Lx wr.heap.size [] wq x) (hA : AppSt 57 4 ec (ge + 1) wq (.slice A n cap) (L ++ [x]) v2 w2) :
    ∃ A2 cap2, v2 = .slice A2 (n + 1) cap2 ∧ RxSt w1 ge S A2 (n + 1) cap2 (L ++ [x]) (w2.setCell ⟨ge, 3, none⟩ v2) := by
  obtain ⟨ho, hb, hs⟩ := hA
  obtain ⟨A2, cap2, rfl, hSl, hAd⟩ := ho.form encE
  have hl : (L ++ [x]).length = n + 1 := by rw [List.length_append, h.len]; rfl
  rw [hl] at ho hs hSl hAd ⊢
  have hgl := h.box.lt
  have hK : ge ∉ foot (.slice A n cap) := fun hm => by have := (h.own.lt (mem_foot.1 hm)).1; omega
  have hK2 : ∀ g, (Value.slice A2 (n + 1) cap2).ownBlock = some g → ge + 1 ≤ g := fun g hg => (ho.lt hg).1
  have hB2 : Bx 57 ge #[.int .i64 4, .string ⟨S.toArray⟩, .int .i64 0, .slice A n cap] w2 := (h.box.ev hE).but hb hK
  have hBS : But [ge] w2 (w2.setCell ⟨ge, 3, none⟩ (.slice A2 (n + 1) cap2)) := But.setCell _ _ (by simp)
  refine ⟨A2, cap2, rfl, ?_, ?_, hl, fun y hy => ?_, ?_, h.ge_⟩
  · have := hB2.set 3 (.slice A2 (n + 1) cap2)
    simpa using this
  · exact ho.but hBS fun g hg => by have := hK2 g hg; simp; omega
  · have hy2 : Lx (ge + 1) (foot (.slice A n cap)) wq y := by
      rcases List.mem_append.1 hy with h1 | h1
      · exact (h.lies y h1).ev hE
      · simp at h1
        subst h1
        refine (hx.less fun k hk => .inr (.inl ?_)).low (by omega)
        exact (h.own.lt (mem_foot.1 hk)).2
    have hy3 : Lx (ge + 1) (foot (.slice A2 (n + 1) cap2)) w2 y := hy2.move hb fun k hk => by
      rcases hs k (mem_foot.1 hk) with h1 | h1
      · exact .inl (mem_foot.2 h1)
      · exact .inr (.inr h1)
    have hy4 : Lx (ge + 1) (ge :: foot (.slice A2 (n + 1) cap2)) w2 y := hy3.less fun k hk => by
      rcases List.mem_cons.1 hk with rfl | h1
      · exact .inr (.inl (by omega))
      · exact .inl h1
    exact hy4.move (hBS.wide fun k hk => by simp at hk; subst hk; exact .inl (by simp)) fun k hk => .inl (List.mem_cons_of_mem _ hk)
  · have h1 : Ev w1 w2 := ((But.of_ev (h.ev.trans hE)).then hb).ev fun k hk => by have := (h.own.lt (mem_foot.1 hk)).1; have := h.ge_; omega
    exact h1.box hBS h.ge_
theorem RxSt.after {w1 wr wq w2 : World} {ge n cap : Nat} {S : By} {A : Option Addr} {L : List M} {L' : List M} {v2 : Value} (h : RxSt w1 ge S A n cap L wr) (hE : Ev wr wq) (hA : AppSt 57 4 ec (ge + 1) wq (.slice A n cap) L' v2 w2) :
    Bx 57 ge #[.int .i64 4, .string ⟨S.toArray⟩, .int .i64 0, .slice A n cap] w2 :=
  (h.box.ev hE).but hA.2.1 fun hm => by have := (h.own.lt (mem_foot.1 hm)).1; omega
theorem RxSt.done {w1 w : World} {ge n cap : Nat} {S : By} {A : Option Addr} {L : List M} (h : RxSt w1 ge S A n cap L w) {b0 : Nat} (hb : b0 ≤ ge) : Lx b0 [] w (.mk 4 S 0 A cap L 0) ∧ n = L.length := by
  obtain ⟨A2, cap2, hv, hSl, hAd⟩ := h.own.form encE
  injection hv with h1 h2 h3
  subst h1; subst h3
  refine ⟨.mk hSl (fun ad e => ⟨by have := (hAd ad e).2.1; omega, (hAd ad e).2.2.1, by simp⟩) fun k hk => ((h.lies k hk).less fun x hx => by cases hx).low (by omega), h2⟩
theorem mem_le_sum : ∀ {l : List Nat} {x : Nat}, x ∈ l → x ≤ l.sum
  | [], x, h => by cases h
  | y :: l, x, h => by
    rcases List.mem_cons.1 h with rfl | h
    · simp
    · have := mem_le_sum h
      simp
      omega
theorem xRead_eq (m : M) : xRead m.t = if m.kind == 2 then (if xName m.s then (.mk 1 m.s 0 [] 0, 0, 0) else xBad 20 m.pos)
    else if m.kind == 3 then (.mk 2 [] m.n [] 0, 0, 0)
    else if m.kind == 4 then (.mk 3 m.s 0 [] 0, 0, 0)
    else if m.kind == 1 then
      (match m.kids with
        | [] => xBad 12 m.pos
        | h :: q => if h.kind == 2 && !(xTakes h.s == 0) then
            (if q.length == xTakes h.s then xReads h.s [] (q.map fun x => xRead x.t) else xBad 23 m.pos) else xBad 12 m.pos)
    else xBad 12 m.pos := by
  cases hk : m.kids with
  | nil =>
    rw [M.t_eq, hk]
    rfl
  | cons h q =>
    rw [M.t_eq, hk]
    simp only [List.map_cons, xRead, M.t_kind, M.t_s, List.length_map, xReadAll_map, List.map_map]
    rfl

end Go.Proofs.YtojbahjebfcmgaaGreatDoor

namespace Go.Proofs.YtojbahjebfcmgaaGreatDoor
open Go.RowKit
set_option linter.unusedVariables false

end Go.Proofs.YtojbahjebfcmgaaGreatDoor
