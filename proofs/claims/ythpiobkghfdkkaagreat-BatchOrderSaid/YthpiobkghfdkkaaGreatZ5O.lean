/-
  Texts that belong together: A frame with exceptions: of the blocks that were there only those in a list may have turned. And appending to a row of bytes, with its footprint: the row's block, or a new one. Of the program only the number of the type uint8 is used. A region that draws its order, one of whose operations (m) may turn some blocks K of what was there (an append onto a row of the caller's, a call that does so): all orders once. All others only make memory; what is said of them stays true when the blocks of K turn; what is said of operation m stays true while the world only grows.
-/
import Derived.Maps.AppendAt
import Derived.Lib.AppendStr
import Derived.Lib.Hide
import Derived.Test.YthpiobkghfdkkaaGreatZ4O
namespace Go.Proofs.YthpiobkghfdkkaaGreat
open Go.RowKit
set_option linter.unusedVariables false

/-- Of what was there only blocks of K may have turned. -/
structure But (K : List Nat) (w w' : World) : Prop where
  os : w'.os = w.os
  tape : w'.tape = w.tape
  output : w'.output = w.output
  size : w.heap.size ≤ w'.heap.size
  block : ∀ k, k < w.heap.size → k ∉ K → w'.heap[k]? = w.heap[k]?

theorem But.refl (K : List Nat) (w : World) : But K w w := ⟨rfl, rfl, rfl, Nat.le_refl _, fun _ _ _ => rfl⟩
theorem But.trans {K K' : List Nat} {a b c : World} (h : But K a b) (k : But K' b c) (hs : ∀ x ∈ K', x ∈ K ∨ a.heap.size ≤ x) : But K a c :=
  ⟨k.os.trans h.os, k.tape.trans h.tape, k.output.trans h.output, Nat.le_trans h.size k.size, fun i hi hn => by
    rw [k.block i (Nat.lt_of_lt_of_le hi h.size) (fun hm => (hs i hm).elim hn (fun h1 => by omega)), h.block i hi hn]⟩
theorem But.then {K : List Nat} {a b c : World} (h : But K a b) (k : But K b c) : But K a c := h.trans k fun _ hx => .inl hx
theorem But.of_ev {K : List Nat} {w w' : World} (h : Ev w w') : But K w w' := ⟨h.os, h.tape, h.output, h.size, fun k hk _ => h.block k hk⟩
theorem But.below {K : List Nat} {w w' : World} {B : Nat} (h : But K w w') (hB : B ≤ w.heap.size) (hK : ∀ k ∈ K, B ≤ k) : Below B w w' :=
  ⟨h.os, h.tape, h.output, h.size, fun k hk => h.block k (by omega) fun hm => by have := hK k hm; omega⟩
theorem But.ev {K : List Nat} {w w' : World} (h : But K w w') (hK : ∀ k ∈ K, w.heap.size ≤ k) : Ev w w' := h.below (Nat.le_refl _) hK
theorem But.wide {K K' : List Nat} {w w' : World} (h : But K w w') (hs : ∀ x ∈ K, x ∈ K' ∨ w.heap.size ≤ x) : But K' w w' :=
  (But.refl K' w).trans h hs
theorem But.setCell {K : List Nat} {w : World} (p : Addr) (v : Value) (h : p.block ∈ K) : But K w (w.setCell p v) :=
  ⟨rfl, rfl, rfl, by simp [World.setCell], fun k _ hn => Below.heap_setCell _ _ _ _ fun e => hn (e ▸ h)⟩
theorem But.grown {K : List Nat} {w w' : World} {row : Option Nat} (h : w.grownBy w' row) (hr : ∀ g, row = some g → g ∈ K) : But K w w' :=
  ⟨h.os, h.tape, h.output, h.size, fun k hk hn => h.block k hk fun e => hn (hr k e.symm)⟩
theorem But.heap {K : List Nat} {w w' : World} (h : But K w w') {k : Nat} {o : Obj} (hk : w.heap[k]? = some o) (hn : k ∉ K) : w'.heap[k]? = some o := by
  rw [h.block k (Array.getElem?_eq_some_iff.1 hk).1 hn]; exact hk
theorem But.alloc {K : List Nat} {w : World} (o : Obj) : But K w (w.alloc o) := .of_ev (Ev.alloc w o)
theorem But.drew {K : List Nat} {w : World} : But K w w.drew := .of_ev (Ev.drew w)

/-- The row of v' is that of v, or a new one. -/
def Sprung (w : World) (v v' : Value) : Prop := ∀ g, v'.ownBlock = some g → v.ownBlock = some g ∨ w.heap.size ≤ g
theorem Sprung.refl (w : World) (v : Value) : Sprung w v v := fun _ h => .inl h
theorem Sprung.trans {w w1 : World} {a b c : Value} (h : Sprung w a b) (k : Sprung w1 b c) (hs : w.heap.size ≤ w1.heap.size) : Sprung w a c := fun g hg => by
  rcases k g hg with h1 | h1
  · exact h g h1
  · exact .inr (by omega)
/-- The blocks that a write to v may turn. -/
def foot (v : Value) : List Nat := v.ownBlock.toList
theorem mem_foot {v : Value} {g : Nat} : g ∈ foot v ↔ v.ownBlock = some g := by
  unfold foot
  cases v.ownBlock <;> simp [eq_comm]

end Go.Proofs.YthpiobkghfdkkaaGreat

namespace Go.Proofs.YthpiobkghfdkkaaGreat
open Go.RowKit
set_option linter.unusedVariables false

def MonoB (K : List Nat) (φ : Value → World → Prop) : Prop := ∀ v w w', But K w w' → φ v w → φ v w'
def AllMonoB (md : Region.Mode) (ops : Array Oper) (K : List Nat) (m : Nat) : Nat → List (Value → World → Prop) → Prop
  | _, [] => True
  | k, φ :: l => (k = m ∨ preds md ops k m = true ∨ MonoB K φ) ∧ AllMonoB md ops K m (k + 1) l
theorem monoB_eq (K : List Nat) (x : Value) : MonoB K (fun v _ => v = x) := fun _ _ _ _ h => h
theorem factAt_monoB {md : Region.Mode} {ops : Array Oper} {K : List Nat} {m : Nat} : ∀ (Φ : List (Value → World → Prop)) (k : Nat), AllMonoB md ops K m k Φ → ∀ i, k + i ≠ m → preds md ops (k + i) m = false → MonoB K (factAt Φ i)
  | [], _, _, i, _, _ => fun _ _ _ _ _ => trivial
  | φ :: l, k, h, 0, hn, hp => by
    rcases h.1 with h1 | h1 | h1
    · exact absurd h1 hn
    · rw [Nat.add_zero, h1] at hp; cases hp
    · exact h1
  | φ :: l, k, h, i + 1, hn, hp => factAt_monoB l (k + 1) h.2 i (by omega) (by rwa [show k + 1 + i = k + (i + 1) by omega])

section
variable {P : Program} {md : Region.Mode} {ops : Array Oper} {Q : Exit → Act → World → Prop} {Φ : List (Value → World → Prop)} {a0 : Act} {w0 : World} {K : List Nat} {m : Nat}

/-- What operation i may turn. -/
def Turns (K : List Nat) (m i : Nat) (w w' : World) : Prop := if i = m then But K w w' else Ev w w'
theorem Turns.but {i : Nat} {w w' : World} (h : Turns K m i w w') : But K w w' := by
  unfold Turns at h
  split at h
  · exact h
  · exact But.of_ev h
theorem Turns.ev {i : Nat} {w w' : World} (h : Turns K m i w w') (hi : i ≠ m) : Ev w w' := by
  unfold Turns at h
  rwa [if_neg hi] at h
theorem Turns.of_ev {i : Nat} {w w' : World} (h : Ev w w') : Turns K m i w w' := by
  unfold Turns
  split
  · exact But.of_ev h
  · exact h
theorem Turns.self {w w' : World} (h : But K w w') : Turns K m m w w' := by
  unfold Turns
  rwa [if_pos rfl]

/-- What operation i may know when it runs. -/
structure CtxB (md : Region.Mode) (ops : Array Oper) (Φ : List (Value → World → Prop)) (a0 : Act) (w0 : World) (K : List Nat) (m i : Nat) (a : Act) (w : World) : Prop where
  but : But K w0 w
  evm : i = m → Ev w0 w
  old : ∀ d, later md ops i d = true → a.eval (.tmp d) = a0.eval (.tmp d)
  new : ∀ j d, preds md ops i j = true → dstAt ops j = some d → factAt Φ j (a.eval (.tmp d)) w
theorem CtxB.was {i : Nat} {a : Act} {w : World} (c : CtxB md ops Φ a0 w0 K m i a w) (d : Nat) {v : Value} (h : later md ops i d = true) (hv : a0.eval (.tmp d) = v) : a.eval (.tmp d) = v := (c.old d h).trans hv
/-- Operation i, run knowing what its forerunners gave. -/
def OpOkB (P : Program) (md : Region.Mode) (ops : Array Oper) (Q : Exit → Act → World → Prop) (Φ : List (Value → World → Prop)) (a0 : Act) (w0 : World) (K : List Nat) (m i : Nat) (o : Oper) : Prop :=
  ∀ (a : Act) (w : World), CtxB md ops Φ a0 w0 K m i a w →
    ∀ L : Act → World → Prop, (∀ v w', Turns K m i w w' → factAt Φ i v w' → L (a.put o.dst v) w') →
    if Region.wanted o (yielded ops a.tmps) = true then Oper.wp P o a w L Q else L (a.put o.dst undef) w

structure MidB (md : Region.Mode) (ops : Array Oper) (Φ : List (Value → World → Prop)) (a0 : Act) (w0 : World) (K : List Nat) (m : Nat) (listed : Array Bool) (a : Act) (w : World) : Prop where
  size : listed.size = ops.size
  but : But K w0 w
  evm : listed.getD m false = false → Ev w0 w
  defers : a.defers = a0.defers
  slots : a.tmps.size = a0.tmps.size
  closed : ∀ i j, listed.getD i false = true → preds md ops i j = true → listed.getD j false = true
  keep : ∀ d, (∀ i, listed.getD i false = true → dstAt ops i ≠ some d) → a.eval (.tmp d) = a0.eval (.tmp d)
  done : ∀ i d, listed.getD i false = true → dstAt ops i = some d → factAt Φ i (a.eval (.tmp d)) w

theorem MidB.step (ht : tidy md ops a0.tmps.size = true) (hm : AllMono Φ) (hmb : AllMonoB md ops K m 0 Φ) {listed : Array Bool} {a : Act} {w w' : World} (h : MidB md ops Φ a0 w0 K m listed a w) {i : Nat} {o : Oper} (ho : ops[i]? = some o)
    (hr : i ∈ Region.ready md ops listed) {v : Value} (hun : listed.getD i false = false) (hE : Turns K m i w w') (hv : factAt Φ i v w') : MidB md ops Φ a0 w0 K m (listed.setIfInBounds i true) (a.put o.dst v) w' := by
  have hi : i < ops.size := (Array.getElem?_eq_some_iff.1 ho).1
  have hdi : dstAt ops i = o.dst := by simp [dstAt, ho]
  have hset : ∀ j, (listed.setIfInBounds i true).getD j false = true → j = i ∨ listed.getD j false = true := by
    intro j hj
    by_cases hij : i = j
    · exact .inl hij.symm
    · rw [getD_set_ne false hij] at hj; exact .inr hj
  have hmm : (listed.setIfInBounds i true).getD m false = false → i ≠ m ∧ listed.getD m false = false := by
    intro hf
    have hne : i ≠ m := by
      rintro rfl
      simp [h.size, hi] at hf
    rw [getD_set_ne false hne] at hf
    exact ⟨hne, hf⟩
  refine ⟨by simpa using h.size, h.but.then hE.but, fun hf => (h.evm (hmm hf).2).trans (hE.ev (hmm hf).1), by rw [defers_put]; exact h.defers, by rw [size_put]; exact h.slots, ?_, ?_, ?_⟩
  · intro j k hj hp
    apply getD_set_true
    rcases hset j hj with rfl | hj'
    · obtain ⟨_, o', ho', hall⟩ := mem_ready.1 hr
      rw [ho] at ho'
      obtain rfl := Option.some.inj ho'
      unfold preds at hp
      simp only [ho] at hp
      obtain ⟨e, he, hb⟩ := Array.any_eq_true'.1 hp
      simp only [Bool.and_eq_true, beq_iff_eq] at hb
      rw [← hb.2]
      exact hall e he hb.1
    · exact h.closed j k hj' hp
  · intro d hd
    have hne : o.dst ≠ some d := by
      rw [← hdi]
      exact hd i (by simp [h.size, hi])
    rw [eval_put_other hne]
    exact h.keep d fun j hj => hd j (getD_set_true hj)
  · intro j d hj hd
    rcases hset j hj with rfl | hj'
    · rw [hdi] at hd
      rw [hd]
      have hsz := (tidy_dst ht (by rw [hdi]; exact hd)).1
      rw [eval_put_same (by rw [h.slots]; exact hsz)]
      exact hv
    · by_cases hij : j = i
      · subst hij
        rw [hdi] at hd
        rw [hd]
        have hsz := (tidy_dst ht (by rw [hdi]; exact hd)).1
        rw [eval_put_same (by rw [h.slots]; exact hsz)]
        exact hv
      · have hne : o.dst ≠ some d := by
          rw [← hdi]
          exact (tidy_dst ht hd).2 i (fun e => hij e.symm)
        rw [eval_put_other hne]
        by_cases him : i = m
        · subst him
          refine factAt_monoB Φ 0 hmb j (by omega) ?_ _ _ _ hE.but (h.done j d hj' hd)
          rw [Nat.zero_add]
          cases hpm : preds md ops j i
          · rfl
          · have := h.closed j i hj' hpm
            rw [hun] at this; cases this
        · exact factAt_mono Φ hm j _ _ _ (hE.ev him) (h.done j d hj' hd)

theorem wpAny_midB (ht : tidy md ops a0.tmps.size = true) (hm : AllMono Φ) (hmb : AllMonoB md ops K m 0 Φ)
    (hops : ∀ i o, ops[i]? = some o → OpOkB P md ops Q Φ a0 w0 K m i o)
    (hQ : ∀ a w, But K w0 w → a.defers = a0.defers → a.tmps.size = a0.tmps.size → (∀ d, nobody ops d = true → a.eval (.tmp d) = a0.eval (.tmp d)) →
      (∀ i d, dstAt ops i = some d → factAt Φ i (a.eval (.tmp d)) w) → Q .normal a w) :
    ∀ (fuel : Nat) (listed : Array Bool) (a : Act) (w : World), unlisted listed ops.size ≤ fuel → MidB md ops Φ a0 w0 K m listed a w → wpAny P md ops Q fuel listed a w := by
  have fin : ∀ (listed : Array Bool) (a : Act) (w : World), Region.ready md ops listed = [] → MidB md ops Φ a0 w0 K m listed a w → Q .normal a w := by
    intro listed a w hr h
    have hall := all_listed ht h.size hr
    refine hQ a w h.but h.defers h.slots (fun d hd => h.keep d fun i hi hid => ?_) (fun i d hd => h.done i d (hall i ?_) hd)
    · have hlt : i < ops.size := by
        unfold dstAt at hid
        cases ho : ops[i]? with
        | none => simp [ho] at hid
        | some o => exact (Array.getElem?_eq_some_iff.1 ho).1
      have := (List.all_eq_true.1 hd) i (List.mem_range.2 hlt)
      simp [hid] at this
    · unfold dstAt at hd
      cases ho : ops[i]? with
      | none => simp [ho] at hd
      | some o => exact (Array.getElem?_eq_some_iff.1 ho).1
  intro fuel
  induction fuel with
  | zero =>
    intro listed a w hu h
    have hr : Region.ready md ops listed = [] := by
      apply List.eq_nil_iff_forall_not_mem.2
      intro i hi
      obtain ⟨h0, o, ho, _⟩ := mem_ready.1 hi
      have hlt : i < ops.size := (Array.getElem?_eq_some_iff.1 ho).1
      have : unlisted listed ops.size = 0 := by omega
      unfold unlisted at this
      rw [List.countP_eq_zero] at this
      have h1 := this i (List.mem_range.2 hlt)
      have hl : i < listed.size := by rw [h.size]; exact hlt
      simp [hl] at h0 h1
      rw [h0] at h1
      cases h1
    exact ⟨hr, fin listed a w hr h⟩
  | succ fuel ih =>
    intro listed a w hu h
    refine ⟨fun hr => fin listed a w hr h, fun i hi => ?_⟩
    obtain ⟨h0, o, ho, hall⟩ := mem_ready.1 hi
    have hlt : i < ops.size := (Array.getElem?_eq_some_iff.1 ho).1
    have hl : i < listed.size := by rw [h.size]; exact hlt
    have hun : listed.getD i false = false := by simpa [hl] using h0
    have hcount := unlisted_set h.size hlt hun
    refine wpOp_step ho fun K' hK' => ?_
    refine hops i o ho a w ⟨h.but, fun e => h.evm (e ▸ hun), fun d hd => h.keep d fun j hj hjd => ?_, fun j d hp hd => ?_⟩ K' (fun v w' hE hv => hK' _ _ (ih _ _ _ (by omega) (h.step ht hm hmb ho hi hun hE hv)))
    · have hltj : j < ops.size := by
        unfold dstAt at hjd
        cases hoj : ops[j]? with
        | none => simp [hoj] at hjd
        | some o => exact (Array.getElem?_eq_some_iff.1 hoj).1
      have h1 := (List.all_eq_true.1 hd) j (List.mem_range.2 hltj)
      simp only [Bool.or_eq_true, beq_iff_eq, bne_iff_ne] at h1
      rcases h1 with (h1 | h1) | h1
      · subst h1; rw [hun] at hj; cases hj
      · exact h1 hjd
      · have := h.closed j i hj h1
        rw [hun] at this; cases this
    · refine h.done j d ?_ hd
      unfold preds at hp
      simp only [ho] at hp
      obtain ⟨e, he, hb⟩ := Array.any_eq_true'.1 hp
      simp only [Bool.and_eq_true, beq_iff_eq] at hb
      rw [← hb.2]
      exact hall e he hb.1

theorem wp_region_midB {id : Nat} (hmix : P.follows .mixedOrders = true) (Φ : List (Value → World → Prop)) (ht : tidy .any ops a0.tmps.size = true) (hm : AllMono Φ) (hmb : AllMonoB .any ops K m 0 Φ)
    (hops : ∀ i o, ops[i]? = some o → OpOkB P .any ops Q Φ a0 w0 K m i o)
    (hQ : ∀ a w, But K w0 w → a.defers = a0.defers → a.tmps.size = a0.tmps.size → (∀ d, nobody ops d = true → a.eval (.tmp d) = a0.eval (.tmp d)) →
      (∀ i d, dstAt ops i = some d → factAt Φ i (a.eval (.tmp d)) w) → Q .normal a w) :
    (Code.region id ops true).wp P Q a0 w0 := by
  refine wp_region_any hmix (wpAny_midB ht hm hmb hops hQ ops.size _ _ _ ?_ ⟨by simp, But.of_ev ⟨rfl, rfl, rfl, Nat.le_refl _, fun _ _ => rfl⟩, fun _ => ?_, rfl, rfl, ?_, fun _ _ => rfl, ?_⟩)
  · unfold unlisted
    exact Nat.le_trans List.countP_le_length (by simp)
  · exact ⟨rfl, rfl, rfl, Nat.le_refl _, fun _ _ => rfl⟩
  · intro i j hi
    exfalso
    by_cases hlt : i < ops.size <;> simp [hlt] at hi
  · intro i d hi
    exfalso
    by_cases hlt : i < ops.size <;> simp [hlt] at hi

/-- The region, and behind it the frame written out over its slots s. -/
theorem wp_region_slotsB {id : Nat} (hmix : P.follows .mixedOrders = true) (K : List Nat) (m : Nat) (Φ : List (Value → World → Prop)) (n : Nat) (hn : a0.tmps.size = n) (ht : tidy .any ops n = true) (hm : AllMono Φ) (hmb : AllMonoB .any ops K m 0 Φ)
    (hops : ∀ i o, ops[i]? = some o → OpOkB P .any ops Q Φ a0 w0 K m (0 + i) o)
    (hQ : ∀ (s : Nat → Value) w, But K w0 w → (∀ d, nobody ops d = true → s d = a0.eval (.tmp d)) →
      (∀ i d, dstAt ops i = some d → factAt Φ i (s d) w) → Q .normal ⟨((List.range n).map s).toArray, a0.defers⟩ w) :
    (Code.region id ops true).wp P Q a0 w0 := by
  subst hn
  refine wp_region_midB hmix Φ ht hm hmb (ops_start hops) ?_
  intro a w hE hd hs hold hnew
  rw [frame_eq hs, hd]
  exact hQ (fun d => a.eval (.tmp d)) w hE hold hnew

/-- An operation that gives a value in the world as it is. -/
theorem opb_value {i : Nat} {o : Oper} (h : ∀ a w, CtxB md ops Φ a0 w0 K m i a w → Region.wanted o (yielded ops a.tmps) = true ∧ ∃ v, (execOp a.eval o).run P w = .ok (.value v) w ∧ factAt Φ i v w) : OpOkB P md ops Q Φ a0 w0 K m i o := by
  intro a w c L hL
  obtain ⟨hw, v, hr, hv⟩ := h a w c
  rw [if_pos hw]
  unfold Oper.wp
  rw [hr]
  exact hL v w (Turns.of_ev (Ev.refl w)) hv
/-- One that makes memory, or is operation m. -/
theorem opb_makes {i : Nat} {o : Oper} (h : ∀ a w, CtxB md ops Φ a0 w0 K m i a w → Region.wanted o (yielded ops a.tmps) = true ∧ ∃ v w', (execOp a.eval o).run P w = .ok (.value v) w' ∧ Turns K m i w w' ∧ factAt Φ i v w') : OpOkB P md ops Q Φ a0 w0 K m i o := by
  intro a w c L hL
  obtain ⟨hw, v, w', hr, hE', hv⟩ := h a w c
  rw [if_pos hw]
  unfold Oper.wp
  rw [hr]
  exact hL v w' hE' hv
/-- A call of a Go function, by its contract. -/
theorem opb_call {i : Nat} {o : Oper} (h : ∀ a w, CtxB md ops Φ a0 w0 K m i a w → Region.wanted o (yielded ops a.tmps) = true ∧ ∃ f args, (execOp a.eval o).run P w = .ok (.enter f args) w ∧
    Calls P f args w fun e w' => ∃ v, e = .returned v ∧ Turns K m i w w' ∧ factAt Φ i v w') : OpOkB P md ops Q Φ a0 w0 K m i o := by
  intro a w c L hL
  obtain ⟨hw, f, args, hr, hc⟩ := h a w c
  rw [if_pos hw]
  unfold Oper.wp
  rw [hr]
  refine hc.mono ?_
  rintro e w' ⟨v, rfl, hE', hv⟩
  exact hL v w' hE' hv
end
end Go.Proofs.YthpiobkghfdkkaaGreat
