/-
  A region that draws its order, taken once for all orders: of each operation it is said what its value is good for (a fact that stays true while the world only grows); each operation is run once, knowing only what its own forerunners gave. Nothing of the program is imported here.
-/
import Derived.Orders
import Derived.Tactics
import Derived.Below
import Derived.KernelRfl
import Derived.RegionTactic
import Derived.Deep.Draws
namespace Go.Proofs.Ytdfoangkjeoomaa
open Go.RowKit
set_option linter.unusedVariables false

/-- The world has only grown: every block that was there is as it was. -/
def Ev (w w' : World) : Prop := Below w.heap.size w w'
theorem Ev.refl (w : World) : Ev w w := Below.refl _ _
theorem Ev.trans {a b c : World} (h : Ev a b) (k : Ev b c) : Ev a c := Below.trans h (Below.mono k h.size)

theorem Ev.alloc (w : World) (o : Obj) : Ev w (w.alloc o) := Below.alloc (Below.refl _ _) (Nat.le_refl _) o
theorem Ev.drew (w : World) : Ev w w.drew := ⟨rfl, rfl, rfl, Nat.le_refl _, fun _ _ => rfl⟩
theorem Ev.drewN (w : World) (n : Nat) : Ev w (w.drewN n) := ⟨rfl, rfl, rfl, Nat.le_refl _, fun _ _ => rfl⟩

/-- What is said of an operation's value. -/
def Mono (φ : Value → World → Prop) : Prop := ∀ v w w', Ev w w' → φ v w → φ v w'
def AllMono : List (Value → World → Prop) → Prop
  | [] => True
  | φ :: l => Mono φ ∧ AllMono l
def factAt (Φ : List (Value → World → Prop)) (i : Nat) : Value → World → Prop := Φ.getD i (fun _ _ => True)
theorem factAt_mono : ∀ (Φ : List (Value → World → Prop)), AllMono Φ → ∀ i, Mono (factAt Φ i)
  | [], _, i => fun _ _ _ _ _ => trivial
  | φ :: l, h, 0 => h.1
  | φ :: l, h, i + 1 => factAt_mono l h.2 i
theorem mono_eq (x : Value) : Mono (fun v _ => v = x) := fun _ _ _ _ h => h
theorem mono_true : Mono (fun _ _ => True) := fun _ _ _ _ h => h

section
variable (md : Region.Mode) (ops : Array Oper)

def dstAt (i : Nat) : Option Tmp := (ops[i]?).bind (·.dst)
def preds (i j : Nat) : Bool := match ops[i]? with | some o => o.after.any (fun e => Region.binds md e && e.on == j) | none => false
/-- Whoever writes slot d comes behind operation i, or is i. -/
def later (i d : Nat) : Bool := (List.range ops.size).all fun j => j == i || dstAt ops j != some d || preds md ops j i
/-- Nobody writes slot d. -/
def nobody (d : Nat) : Bool := (List.range ops.size).all fun j => dstAt ops j != some d
/-- Forerunners stand ahead in the text; no two operations write one slot; every slot that is written lies in the frame. -/
def tidy (n : Nat) : Bool := (List.range ops.size).all fun i =>
  (match ops[i]? with | some o => o.after.all (fun e => !Region.binds md e || decide (e.on < i)) | none => false) &&
  (match dstAt ops i with | some d => decide (d < n) && (List.range ops.size).all (fun j => j == i || dstAt ops j != some d) | none => true)

variable {md ops}
theorem tidy_before {n : Nat} (h : tidy md ops n = true) {i j : Nat} (hp : preds md ops i j = true) : j < i := by
  unfold preds at hp
  cases ho : ops[i]? with
  | none => simp [ho] at hp
  | some o =>
    simp only [ho] at hp
    obtain ⟨e, he, hb⟩ := Array.any_eq_true'.1 hp
    have hlt : i < ops.size := (Array.getElem?_eq_some_iff.1 ho).1
    have h1 := (List.all_eq_true.1 h) i (List.mem_range.2 hlt)
    rw [Bool.and_eq_true] at h1
    have h2 := h1.1
    simp only [ho] at h2
    have h3 := (Array.all_eq_true_iff_forall_mem.1 h2) e he
    simp only [Bool.and_eq_true, beq_iff_eq] at hb
    simp [hb.1] at h3
    omega
theorem tidy_dst {n : Nat} (h : tidy md ops n = true) {i : Nat} {d : Tmp} (hd : dstAt ops i = some d) : d < n ∧ ∀ j, j ≠ i → dstAt ops j ≠ some d := by
  have hlt : i < ops.size := by
    unfold dstAt at hd
    cases ho : ops[i]? with
    | none => simp [ho] at hd
    | some o => exact (Array.getElem?_eq_some_iff.1 ho).1
  have h1 := (List.all_eq_true.1 h) i (List.mem_range.2 hlt)
  rw [Bool.and_eq_true] at h1
  have h2 := h1.2
  simp only [hd, Bool.and_eq_true, decide_eq_true_eq, List.all_eq_true, List.mem_range, Bool.or_eq_true, beq_iff_eq, bne_iff_ne] at h2
  refine ⟨h2.1, fun j hj hjd => ?_⟩
  have hltj : j < ops.size := by
    unfold dstAt at hjd
    cases ho : ops[j]? with
    | none => simp [ho] at hjd
    | some o => exact (Array.getElem?_eq_some_iff.1 ho).1
  rcases h2.2 j hltj with h3 | h3
  · exact hj h3
  · exact h3 hjd
end

section
variable {P : Program} {md : Region.Mode} {ops : Array Oper} {Q : Exit → Act → World → Prop} {Φ : List (Value → World → Prop)} {a0 : Act} {w0 : World}

/-- Operation i, run knowing what its forerunners gave. -/
def OpOk (P : Program) (md : Region.Mode) (ops : Array Oper) (Q : Exit → Act → World → Prop) (Φ : List (Value → World → Prop)) (a0 : Act) (w0 : World) (i : Nat) (o : Oper) : Prop :=
  ∀ (a : Act) (w : World), Ev w0 w → a.defers = a0.defers →
    (∀ d, later md ops i d = true → a.eval (.tmp d) = a0.eval (.tmp d)) →
    (∀ j d, preds md ops i j = true → dstAt ops j = some d → factAt Φ j (a.eval (.tmp d)) w) →
    ∀ K : Act → World → Prop, (∀ v w', Ev w w' → factAt Φ i v w' → K (a.put o.dst v) w') →
    if Region.wanted o (yielded ops a.tmps) = true then Oper.wp P o a w K Q else K (a.put o.dst undef) w

/-- The state in the midst of the region. -/
structure Mid (md : Region.Mode) (ops : Array Oper) (Φ : List (Value → World → Prop)) (a0 : Act) (w0 : World) (listed : Array Bool) (a : Act) (w : World) : Prop where
  size : listed.size = ops.size
  ev : Ev w0 w
  defers : a.defers = a0.defers
  slots : a.tmps.size = a0.tmps.size
  closed : ∀ i j, listed.getD i false = true → preds md ops i j = true → listed.getD j false = true
  keep : ∀ d, (∀ i, listed.getD i false = true → dstAt ops i ≠ some d) → a.eval (.tmp d) = a0.eval (.tmp d)
  done : ∀ i d, listed.getD i false = true → dstAt ops i = some d → factAt Φ i (a.eval (.tmp d)) w

def unlisted (listed : Array Bool) (n : Nat) : Nat := (List.range n).countP fun i => !listed.getD i false

theorem unlisted_set {listed : Array Bool} {n i : Nat} (hs : listed.size = n) (hi : i < n) (hu : listed.getD i false = false) : unlisted (listed.setIfInBounds i true) n < unlisted listed n := by
  unfold unlisted
  have key : ∀ l : List Nat, i ∈ l → (∀ j ∈ l, j < n) → l.countP (fun j => !(listed.setIfInBounds i true).getD j false) < l.countP (fun j => !listed.getD j false) := by
    have mono : ∀ l : List Nat, l.countP (fun j => !(listed.setIfInBounds i true).getD j false) ≤ l.countP (fun j => !listed.getD j false) := by
      intro l
      apply List.countP_mono_left
      intro j _ hj
      by_cases hij : i = j
      · subst hij; simp [hs, hi] at hj
      · rw [getD_set_ne false hij] at hj; exact hj
    intro l
    induction l with
    | nil => intro h _; cases h
    | cons x l ih =>
      intro hm hl
      by_cases hx : x = i
      · subst hx
        have h1 : (!(listed.setIfInBounds x true).getD x false) = false := by simp [hs, hi]
        have h2 : (!listed.getD x false) = true := by rw [hu]; rfl
        rw [List.countP_cons_of_neg (by simpa using h1), List.countP_cons_of_pos (by simpa using h2)]
        have := mono l
        omega
      · have hil : i ∈ l := by
          rcases List.mem_cons.1 hm with h | h
          · exact absurd h.symm hx
          · exact h
        have h3 := ih hil (fun j hj => hl j (List.mem_cons_of_mem _ hj))
        have h4 : (!(listed.setIfInBounds i true).getD x false) = (!listed.getD x false) := by rw [getD_set_ne false (Ne.symm hx)]
        simp only [List.countP_cons]
        rw [h4]
        omega
  exact key _ (List.mem_range.2 hi) (fun j hj => List.mem_range.1 hj)

theorem all_listed {n : Nat} (ht : tidy md ops n = true) {listed : Array Bool} (hs : listed.size = ops.size) (hr : Region.ready md ops listed = []) : ∀ i, i < ops.size → listed.getD i false = true := by
  intro i
  induction i using Nat.strongRecOn with
  | ind i ih =>
    intro hi
    by_cases hl : listed.getD i false = true
    · exact hl
    · have hmem : i ∈ Region.ready md ops listed := by
        rw [mem_ready]
        have hlt : i < listed.size := by omega
        refine ⟨by simpa [hlt] using hl, ops[i], Array.getElem?_eq_getElem hi, fun e he hb => ?_⟩
        have hp : preds md ops i e.on = true := by
          unfold preds
          rw [Array.getElem?_eq_getElem hi]
          exact Array.any_eq_true'.2 ⟨e, he, by simp [hb]⟩
        have hb2 := tidy_before ht hp
        exact ih e.on hb2 (by omega)
      rw [hr] at hmem
      cases hmem

theorem eval_put_same {a : Act} {d : Tmp} {v : Value} (h : d < a.tmps.size) : (a.put (some d) v).eval (.tmp d) = v := by
  simp [Act.put, Act.eval, h]
theorem eval_put_other {a : Act} {dst : Option Tmp} {d : Tmp} {v : Value} (h : dst ≠ some d) : (a.put dst v).eval (.tmp d) = a.eval (.tmp d) := by
  apply Act.eval_put
  intro d' hd' he
  injection he with he
  subst he
  exact h hd'
theorem defers_put (a : Act) (dst : Option Tmp) (v : Value) : (a.put dst v).defers = a.defers := by cases dst <;> rfl
theorem size_put (a : Act) (dst : Option Tmp) (v : Value) : (a.put dst v).tmps.size = a.tmps.size := by cases dst <;> simp [Act.put]

theorem Mid.step (ht : tidy md ops a0.tmps.size = true) (hm : AllMono Φ) {listed : Array Bool} {a : Act} {w w' : World} (h : Mid md ops Φ a0 w0 listed a w) {i : Nat} {o : Oper} (ho : ops[i]? = some o)
    (hr : i ∈ Region.ready md ops listed) {v : Value} (hE : Ev w w') (hv : factAt Φ i v w') : Mid md ops Φ a0 w0 (listed.setIfInBounds i true) (a.put o.dst v) w' := by
  have hi : i < ops.size := (Array.getElem?_eq_some_iff.1 ho).1
  have hdi : dstAt ops i = o.dst := by simp [dstAt, ho]
  have hset : ∀ j, (listed.setIfInBounds i true).getD j false = true → j = i ∨ listed.getD j false = true := by
    intro j hj
    by_cases hij : i = j
    · exact .inl hij.symm
    · rw [getD_set_ne false hij] at hj; exact .inr hj
  refine ⟨by simpa using h.size, h.ev.trans hE, by rw [defers_put]; exact h.defers, by rw [size_put]; exact h.slots, ?_, ?_, ?_⟩
  · intro j k hj hp
    apply getD_set_true
    rcases hset j hj with rfl | hj'
    · obtain ⟨_, o', ho', hall⟩ := mem_ready.1 hr
      rw [ho] at ho'
      obtain rfl := Option.some.inj ho'
      unfold preds at hp
      simp only [ho] at hp
      obtain ⟨e, he, hb⟩ := Array.any_eq_true'.1 hp
      simp only [Bool.and_eq_true, beq_iff_eq] at hb
      rw [← hb.2]
      exact hall e he hb.1
    · exact h.closed j k hj' hp
  · intro d hd
    have hne : o.dst ≠ some d := by
      rw [← hdi]
      exact hd i (by simp [h.size, hi])
    rw [eval_put_other hne]
    exact h.keep d fun j hj => hd j (getD_set_true hj)
  · intro j d hj hd
    rcases hset j hj with rfl | hj'
    · rw [hdi] at hd
      rw [hd]
      have hsz := (tidy_dst ht (by rw [hdi]; exact hd)).1
      rw [eval_put_same (by rw [h.slots]; exact hsz)]
      exact hv
    · by_cases hij : j = i
      · subst hij
        rw [hdi] at hd
        rw [hd]
        have hsz := (tidy_dst ht (by rw [hdi]; exact hd)).1
        rw [eval_put_same (by rw [h.slots]; exact hsz)]
        exact hv
      · have hne : o.dst ≠ some d := by
          rw [← hdi]
          exact (tidy_dst ht hd).2 i (fun e => hij e.symm)
        rw [eval_put_other hne]
        exact factAt_mono Φ hm j _ _ _ hE (h.done j d hj' hd)

theorem wpAny_mid (ht : tidy md ops a0.tmps.size = true) (hm : AllMono Φ)
    (hops : ∀ i o, ops[i]? = some o → OpOk P md ops Q Φ a0 w0 i o)
    (hQ : ∀ a w, Ev w0 w → a.defers = a0.defers → a.tmps.size = a0.tmps.size → (∀ d, nobody ops d = true → a.eval (.tmp d) = a0.eval (.tmp d)) →
      (∀ i d, dstAt ops i = some d → factAt Φ i (a.eval (.tmp d)) w) → Q .normal a w) :
    ∀ (fuel : Nat) (listed : Array Bool) (a : Act) (w : World), unlisted listed ops.size ≤ fuel → Mid md ops Φ a0 w0 listed a w → wpAny P md ops Q fuel listed a w := by
  have fin : ∀ (listed : Array Bool) (a : Act) (w : World), Region.ready md ops listed = [] → Mid md ops Φ a0 w0 listed a w → Q .normal a w := by
    intro listed a w hr h
    have hall := all_listed ht h.size hr
    refine hQ a w h.ev h.defers h.slots (fun d hd => h.keep d fun i hi hid => ?_) (fun i d hd => h.done i d (hall i ?_) hd)
    · have hlt : i < ops.size := by
        unfold dstAt at hid
        cases ho : ops[i]? with
        | none => simp [ho] at hid
        | some o => exact (Array.getElem?_eq_some_iff.1 ho).1
      have := (List.all_eq_true.1 hd) i (List.mem_range.2 hlt)
      simp [hid] at this
    · unfold dstAt at hd
      cases ho : ops[i]? with
      | none => simp [ho] at hd
      | some o => exact (Array.getElem?_eq_some_iff.1 ho).1
  intro fuel
  induction fuel with
  | zero =>
    intro listed a w hu h
    have hr : Region.ready md ops listed = [] := by
      apply List.eq_nil_iff_forall_not_mem.2
      intro i hi
      obtain ⟨h0, o, ho, _⟩ := mem_ready.1 hi
      have hlt : i < ops.size := (Array.getElem?_eq_some_iff.1 ho).1
      have : unlisted listed ops.size = 0 := by omega
      unfold unlisted at this
      rw [List.countP_eq_zero] at this
      have h1 := this i (List.mem_range.2 hlt)
      have hl : i < listed.size := by rw [h.size]; exact hlt
      simp [hl] at h0 h1
      rw [h0] at h1
      cases h1
    exact ⟨hr, fin listed a w hr h⟩
  | succ fuel ih =>
    intro listed a w hu h
    refine ⟨fun hr => fin listed a w hr h, fun i hi => ?_⟩
    obtain ⟨h0, o, ho, hall⟩ := mem_ready.1 hi
    have hlt : i < ops.size := (Array.getElem?_eq_some_iff.1 ho).1
    have hl : i < listed.size := by rw [h.size]; exact hlt
    have hun : listed.getD i false = false := by simpa [hl] using h0
    have hcount := unlisted_set h.size hlt hun
    refine wpOp_step ho fun K' hK' => ?_
    refine hops i o ho a w h.ev h.defers (fun d hd => h.keep d fun j hj hjd => ?_) (fun j d hp hd => ?_) K' (fun v w' hE hv => hK' _ _ (ih _ _ _ (by omega) (h.step ht hm ho hi hE hv)))
    · have hltj : j < ops.size := by
        unfold dstAt at hjd
        cases hoj : ops[j]? with
        | none => simp [hoj] at hjd
        | some o => exact (Array.getElem?_eq_some_iff.1 hoj).1
      have h1 := (List.all_eq_true.1 hd) j (List.mem_range.2 hltj)
      simp only [Bool.or_eq_true, beq_iff_eq, bne_iff_ne] at h1
      rcases h1 with (h1 | h1) | h1
      · subst h1; rw [hun] at hj; cases hj
      · exact h1 hjd
      · have := h.closed j i hj h1
        rw [hun] at this; cases this
    · refine h.done j d ?_ hd
      unfold preds at hp
      simp only [ho] at hp
      obtain ⟨e, he, hb⟩ := Array.any_eq_true'.1 hp
      simp only [Bool.and_eq_true, beq_iff_eq] at hb
      rw [← hb.2]
      exact hall e he hb.1

theorem wp_region_mid {id : Nat} (hmix : P.follows .mixedOrders = true) (Φ : List (Value → World → Prop)) (ht : tidy .any ops a0.tmps.size = true) (hm : AllMono Φ)
    (hops : ∀ i o, ops[i]? = some o → OpOk P .any ops Q Φ a0 w0 i o)
    (hQ : ∀ a w, Ev w0 w → a.defers = a0.defers → a.tmps.size = a0.tmps.size → (∀ d, nobody ops d = true → a.eval (.tmp d) = a0.eval (.tmp d)) →
      (∀ i d, dstAt ops i = some d → factAt Φ i (a.eval (.tmp d)) w) → Q .normal a w) :
    (Code.region id ops true).wp P Q a0 w0 := by
  refine wp_region_any hmix (wpAny_mid ht hm hops hQ ops.size _ _ _ ?_ ⟨by simp, ?_, rfl, rfl, ?_, fun _ _ => rfl, ?_⟩)
  · unfold unlisted
    exact Nat.le_trans List.countP_le_length (by simp)
  · exact ⟨rfl, rfl, rfl, Nat.le_refl _, fun _ _ => rfl⟩
  · intro i j hi
    exfalso
    by_cases hlt : i < ops.size <;> simp [hlt] at hi
  · intro i d hi
    exfalso
    by_cases hlt : i < ops.size <;> simp [hlt] at hi

/-- The operations one by one. -/
theorem ops_nil {R : Nat → Oper → Prop} (k : Nat) : ∀ i o, (([] : List Oper).toArray)[i]? = some o → R (k + i) o := by
  intro i o h
  simp at h
theorem ops_cons {R : Nat → Oper → Prop} {o0 : Oper} {l : List Oper} (k : Nat) (h0 : R k o0) (h : ∀ i o, l.toArray[i]? = some o → R (k + 1 + i) o) : ∀ i o, (o0 :: l).toArray[i]? = some o → R (k + i) o := by
  intro i o hi
  cases i with
  | zero => simp at hi; subst hi; exact h0
  | succ i =>
    have := h i o (by simpa using hi)
    rwa [show k + 1 + i = k + (i + 1) by omega] at this
theorem ops_start {R : Nat → Oper → Prop} {ops : Array Oper} (h : ∀ i o, ops[i]? = some o → R (0 + i) o) : ∀ i o, ops[i]? = some o → R i o := by
  intro i o hi
  have := h i o hi
  rwa [Nat.zero_add] at this

theorem yielded_of {a : Act} {j d : Nat} {b : Bool} (hd : dstAt ops j = some d) (h : a.eval (.tmp d) = .bool b) : yielded ops a.tmps j = some b := by
  unfold dstAt at hd
  unfold yielded
  rw [hd, Option.bind_some]
  simp only [Act.eval] at h
  by_cases hlt : d < a.tmps.size
  · simp [hlt] at h
    simp [hlt, h]
  · simp [hlt, undef] at h

/-- What operation i may know when it runs. -/
structure Ctx (md : Region.Mode) (ops : Array Oper) (Φ : List (Value → World → Prop)) (a0 : Act) (w0 : World) (i : Nat) (a : Act) (w : World) : Prop where
  ev : Ev w0 w
  old : ∀ d, later md ops i d = true → a.eval (.tmp d) = a0.eval (.tmp d)
  new : ∀ j d, preds md ops i j = true → dstAt ops j = some d → factAt Φ j (a.eval (.tmp d)) w
theorem Ctx.was {i : Nat} {a : Act} {w : World} (c : Ctx md ops Φ a0 w0 i a w) (d : Nat) {v : Value} (h : later md ops i d = true) (hv : a0.eval (.tmp d) = v) : a.eval (.tmp d) = v := (c.old d h).trans hv
theorem Ctx.got {i : Nat} {a : Act} {w : World} (c : Ctx md ops Φ a0 w0 i a w) (j d : Nat) {φ : Value → World → Prop} (h : preds md ops i j = true) (hd : dstAt ops j = some d) (hφ : factAt Φ j = φ) : φ (a.eval (.tmp d)) w := hφ ▸ c.new j d h hd

/-- An operation that gives a value in the world as it is. -/
theorem op_value {i : Nat} {o : Oper} (h : ∀ a w, Ctx md ops Φ a0 w0 i a w → Region.wanted o (yielded ops a.tmps) = true ∧ ∃ v, (execOp a.eval o).run P w = .ok (.value v) w ∧ factAt Φ i v w) : OpOk P md ops Q Φ a0 w0 i o := by
  intro a w hE _ hold hnew K hK
  obtain ⟨hw, v, hr, hv⟩ := h a w ⟨hE, hold, hnew⟩
  rw [if_pos hw]
  unfold Oper.wp
  rw [hr]
  exact hK v w (Ev.refl w) hv
/-- One that makes memory. -/
theorem op_makes {i : Nat} {o : Oper} (h : ∀ a w, Ctx md ops Φ a0 w0 i a w → Region.wanted o (yielded ops a.tmps) = true ∧ ∃ v w', (execOp a.eval o).run P w = .ok (.value v) w' ∧ Ev w w' ∧ factAt Φ i v w') : OpOk P md ops Q Φ a0 w0 i o := by
  intro a w hE _ hold hnew K hK
  obtain ⟨hw, v, w', hr, hE', hv⟩ := h a w ⟨hE, hold, hnew⟩
  rw [if_pos hw]
  unfold Oper.wp
  rw [hr]
  exact hK v w' hE' hv
/-- A call of a Go function, by its contract. -/
theorem op_call {i : Nat} {o : Oper} (h : ∀ a w, Ctx md ops Φ a0 w0 i a w → Region.wanted o (yielded ops a.tmps) = true ∧ ∃ f args, (execOp a.eval o).run P w = .ok (.enter f args) w ∧
    Calls P f args w fun e w' => ∃ v, e = .returned v ∧ Ev w w' ∧ factAt Φ i v w') : OpOk P md ops Q Φ a0 w0 i o := by
  intro a w hE _ hold hnew K hK
  obtain ⟨hw, f, args, hr, hc⟩ := h a w ⟨hE, hold, hnew⟩
  rw [if_pos hw]
  unfold Oper.wp
  rw [hr]
  refine hc.mono ?_
  rintro e w' ⟨v, rfl, hE', hv⟩
  exact hK v w' hE' hv
/-- One that its guard passes over. -/
theorem op_skip {i : Nat} {o : Oper} (h : ∀ a w, Ctx md ops Φ a0 w0 i a w → Region.wanted o (yielded ops a.tmps) = false ∧ factAt Φ i undef w) : OpOk P md ops Q Φ a0 w0 i o := by
  intro a w hE _ hold hnew K hK
  obtain ⟨hw, hv⟩ := h a w ⟨hE, hold, hnew⟩
  rw [if_neg (by rw [hw]; exact Bool.false_ne_true)]
  exact hK undef w (Ev.refl w) hv
theorem run_move {ρ : Operand → Value} {o : Oper} (x : Operand) (h : o.op = .move x) (w : World) : (execOp ρ o).run P w = .ok (.value (ρ x)) w := by
  unfold execOp; rw [h]; rfl
theorem run_assign {ρ : Operand → Value} {o : Oper} (x : Operand) (h : o.op = .assign x) (w : World) : (execOp ρ o).run P w = .ok (.value (ρ x)) w := by
  unfold execOp; rw [h]; rfl
theorem run_pick_true {ρ : Operand → Value} {o : Oper} {c x y : Operand} (ho : o.op = .pick c x y) (h : ρ c = .bool true) (w : World) : (execOp ρ o).run P w = .ok (.value (ρ x)) w := by
  unfold execOp; rw [ho]; simp [h, asBool]
theorem run_pick_false {ρ : Operand → Value} {o : Oper} {c x y : Operand} (ho : o.op = .pick c x y) (h : ρ c = .bool false) (w : World) : (execOp ρ o).run P w = .ok (.value (ρ y)) w := by
  unfold execOp; rw [ho]; simp [h, asBool]
theorem evc (a : Act) (v : Value) : a.eval (.const v) = v := rfl
/-- Function f has a body of its own in this program. -/
def bodied (P : Program) (f : FuncId) : Bool := match P.funcs[f]? with | some fn => !(fn.name == "runtime.NumGoroutine") && !fn.body.isNone | none => false
theorem run_enter {f : FuncId} (h : bodied P f = true) (args : Array Value) (w : World) : (callFunc f args).run P w = .ok (.enter f args) w := by
  unfold bodied at h
  cases hf : P.funcs[f]? with
  | none => simp [hf] at h
  | some fn =>
    simp only [hf, Bool.and_eq_true, Bool.not_eq_true'] at h
    have h1 : ¬ fn.name = "runtime.NumGoroutine" := by simpa using h.1
    have h2 : ¬ fn.body = none := by
      intro e
      simp [e] at h
    simp [callFunc, hf, h1, h2]
theorem run_call {a : Act} {o : Oper} (f : FuncId) (xs : Array Operand) (ts : Array TypeId) (ho : o.op = .call { callee := .value (.func f), args := xs, argTypes := ts }) (h : bodied P f = true) (w : World) :
    (execOp a.eval o).run P w = .ok (.enter f (xs.map a.eval)) w := by
  unfold execOp
  rw [ho]
  simp [resolve, Act.eval, Deferred.ofValue, invoke]
  exact run_enter h _ w
theorem wanted_plain {o : Oper} {y : Nat → Option Bool} (h : o.guard = none) : Region.wanted o y = true := by simp [Region.wanted, h]
theorem wanted_yes {o : Oper} {a : Act} {g d : Nat} {b : Bool} (h : o.guard = some (g, b)) (hd : dstAt ops g = some d) (hv : a.eval (.tmp d) = .bool b) : Region.wanted o (yielded ops a.tmps) = true := by
  simp [Region.wanted, h, yielded_of hd hv]
theorem wanted_no {o : Oper} {a : Act} {g d : Nat} {b c : Bool} (h : o.guard = some (g, b)) (hd : dstAt ops g = some d) (hv : a.eval (.tmp d) = .bool c) (hne : c ≠ b) : Region.wanted o (yielded ops a.tmps) = false := by
  simp [Region.wanted, h, yielded_of hd hv, hne]

theorem frame_eq {a : Act} {n : Nat} (h : a.tmps.size = n) : a = ⟨((List.range n).map fun d => a.eval (.tmp d)).toArray, a.defers⟩ := by
  have e : a.tmps = ((List.range n).map fun d => a.eval (.tmp d)).toArray := by
    apply Array.ext
    · simp [h]
    · intro i h1 h2
      simp [Act.eval, h1]
  cases a
  simp only at e ⊢
  rw [← e]

/-- The region, and behind it the frame written out over its slots s. -/
theorem wp_region_slots {id : Nat} (hmix : P.follows .mixedOrders = true) (Φ : List (Value → World → Prop)) (n : Nat) (hn : a0.tmps.size = n) (ht : tidy .any ops n = true) (hm : AllMono Φ)
    (hops : ∀ i o, ops[i]? = some o → OpOk P .any ops Q Φ a0 w0 (0 + i) o)
    (hQ : ∀ (s : Nat → Value) w, Ev w0 w → (∀ d, nobody ops d = true → s d = a0.eval (.tmp d)) →
      (∀ i d, dstAt ops i = some d → factAt Φ i (s d) w) → Q .normal ⟨((List.range n).map s).toArray, a0.defers⟩ w) :
    (Code.region id ops true).wp P Q a0 w0 := by
  subst hn
  refine wp_region_mid hmix Φ ht hm (ops_start hops) ?_
  intro a w hE hd hs hold hnew
  rw [frame_eq hs, hd]
  exact hQ (fun d => a.eval (.tmp d)) w hE hold hnew
end
end Go.Proofs.Ytdfoangkjeoomaa
