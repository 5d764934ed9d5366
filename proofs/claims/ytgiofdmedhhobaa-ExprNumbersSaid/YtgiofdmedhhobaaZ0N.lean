/-
  Texts that belong together: A region that draws its order, taken once for all orders: of each operation it is said what its value is good for (a fact that stays true while the world only grows); each operation is run once, knowing only what its own forerunners gave. Nothing of the program is imported here. A region that draws its order and ends in one operation that writes (a store): all others are taken once for all orders, the last one behind them all. A region that draws its order and ends in two operations in a forced order (a store, an assignment): all others are taken once for all orders. A region that draws its order, ends in one operation that writes (a store), and has one operation p that may turn memory which is new in the region (an append onto what an append gave): what is said of an operation whose users are all p or ahead of p need not outlive p. A region that draws its order, one of whose operations (m) stores into memory that the region itself has made: all orders once. What is said of the others stays true while the world grows, and through that store (unless they stand behind it); behind the region one knows what the store left of the box whose pointer lies in slot dm.
-/
import Derived.Orders
import Derived.Tactics
import Derived.Below
import Derived.KernelRfl
import Derived.RegionTactic
import Derived.Deep.Draws
namespace Go.Proofs.Ytgiofdmedhhobaa
open Go.RowKit
set_option linter.unusedVariables false

/-- The world has only grown: every block that was there is as it was. -/
def Ev (w w' : World) : Prop := Below w.heap.size w w'
theorem Ev.refl (w : World) : Ev w w := Below.refl _ _
theorem Ev.trans {a b c : World} (h : Ev a b) (k : Ev b c) : Ev a c := Below.trans h (Below.mono k h.size)

theorem Ev.alloc (w : World) (o : Obj) : Ev w (w.alloc o) := Below.alloc (Below.refl _ _) (Nat.le_refl _) o
theorem Ev.drew (w : World) : Ev w w.drew := ⟨rfl, rfl, rfl, Nat.le_refl _, fun _ _ => rfl⟩
theorem Ev.drewN (w : World) (n : Nat) : Ev w (w.drewN n) := ⟨rfl, rfl, rfl, Nat.le_refl _, fun _ _ => rfl⟩

/-- What is said of an operation's value. -/
def Mono (φ : Value → World → Prop) : Prop := ∀ v w w', Ev w w' → φ v w → φ v w'
def AllMono : List (Value → World → Prop) → Prop
  | [] => True
  | φ :: l => Mono φ ∧ AllMono l
def factAt (Φ : List (Value → World → Prop)) (i : Nat) : Value → World → Prop := Φ.getD i (fun _ _ => True)
theorem factAt_mono : ∀ (Φ : List (Value → World → Prop)), AllMono Φ → ∀ i, Mono (factAt Φ i)
  | [], _, i => fun _ _ _ _ _ => trivial
  | φ :: l, h, 0 => h.1
  | φ :: l, h, i + 1 => factAt_mono l h.2 i
theorem mono_eq (x : Value) : Mono (fun v _ => v = x) := fun _ _ _ _ h => h
theorem mono_true : Mono (fun _ _ => True) := fun _ _ _ _ h => h

section
variable (md : Region.Mode) (ops : Array Oper)

def dstAt (i : Nat) : Option Tmp := (ops[i]?).bind (·.dst)
def preds (i j : Nat) : Bool := match ops[i]? with | some o => o.after.any (fun e => Region.binds md e && e.on == j) | none => false
/-- Whoever writes slot d comes behind operation i, or is i. -/
def later (i d : Nat) : Bool := (List.range ops.size).all fun j => j == i || dstAt ops j != some d || preds md ops j i
/-- Nobody writes slot d. -/
def nobody (d : Nat) : Bool := (List.range ops.size).all fun j => dstAt ops j != some d
/-- Forerunners stand ahead in the text; no two operations write one slot; every slot that is written lies in the frame. -/
def tidy (n : Nat) : Bool := (List.range ops.size).all fun i =>
  (match ops[i]? with | some o => o.after.all (fun e => !Region.binds md e || decide (e.on < i)) | none => false) &&
  (match dstAt ops i with | some d => decide (d < n) && (List.range ops.size).all (fun j => j == i || dstAt ops j != some d) | none => true)

variable {md ops}
theorem tidy_before {n : Nat} (h : tidy md ops n = true) {i j : Nat} (hp : preds md ops i j = true) : j < i := by
  unfold preds at hp
  cases ho : ops[i]? with
  | none => simp [ho] at hp
  | some o =>
    simp only [ho] at hp
    obtain ⟨e, he, hb⟩ := Array.any_eq_true'.1 hp
    have hlt : i < ops.size := (Array.getElem?_eq_some_iff.1 ho).1
    have h1 := (List.all_eq_true.1 h) i (List.mem_range.2 hlt)
    rw [Bool.and_eq_true] at h1
    have h2 := h1.1
    simp only [ho] at h2
    have h3 := (Array.all_eq_true_iff_forall_mem.1 h2) e he
    simp only [Bool.and_eq_true, beq_iff_eq] at hb
    simp [hb.1] at h3
    omega
theorem tidy_dst {n : Nat} (h : tidy md ops n = true) {i : Nat} {d : Tmp} (hd : dstAt ops i = some d) : d < n ∧ ∀ j, j ≠ i → dstAt ops j ≠ some d := by
  have hlt : i < ops.size := by
    unfold dstAt at hd
    cases ho : ops[i]? with
    | none => simp [ho] at hd
    | some o => exact (Array.getElem?_eq_some_iff.1 ho).1
  have h1 := (List.all_eq_true.1 h) i (List.mem_range.2 hlt)
  rw [Bool.and_eq_true] at h1
  have h2 := h1.2
  simp only [hd, Bool.and_eq_true, decide_eq_true_eq, List.all_eq_true, List.mem_range, Bool.or_eq_true, beq_iff_eq, bne_iff_ne] at h2
  refine ⟨h2.1, fun j hj hjd => ?_⟩
  have hltj : j < ops.size := by
    unfold dstAt at hjd
    cases ho : ops[j]? with
    | none => simp [ho] at hjd
    | some o => exact (Array.getElem?_eq_some_iff.1 ho).1
  rcases h2.2 j hltj with h3 | h3
  · exact hj h3
  · exact h3 hjd
end

section
variable {P : Program} {md : Region.Mode} {ops : Array Oper} {Q : Exit → Act → World → Prop} {Φ : List (Value → World → Prop)} {a0 : Act} {w0 : World}

/-- Operation i, run knowing what its forerunners gave. -/
def OpOk (P : Program) (md : Region.Mode) (ops : Array Oper) (Q : Exit → Act → World → Prop) (Φ : List (Value → World → Prop)) (a0 : Act) (w0 : World) (i : Nat) (o : Oper) : Prop :=
  ∀ (a : Act) (w : World), Ev w0 w → a.defers = a0.defers →
    (∀ d, later md ops i d = true → a.eval (.tmp d) = a0.eval (.tmp d)) →
    (∀ j d, preds md ops i j = true → dstAt ops j = some d → factAt Φ j (a.eval (.tmp d)) w) →
    ∀ K : Act → World → Prop, (∀ v w', Ev w w' → factAt Φ i v w' → K (a.put o.dst v) w') →
    if Region.wanted o (yielded ops a.tmps) = true then Oper.wp P o a w K Q else K (a.put o.dst undef) w

/-- The state in the midst of the region. -/
structure Mid (md : Region.Mode) (ops : Array Oper) (Φ : List (Value → World → Prop)) (a0 : Act) (w0 : World) (listed : Array Bool) (a : Act) (w : World) : Prop where
  size : listed.size = ops.size
  ev : Ev w0 w
  defers : a.defers = a0.defers
  slots : a.tmps.size = a0.tmps.size
  closed : ∀ i j, listed.getD i false = true → preds md ops i j = true → listed.getD j false = true
  keep : ∀ d, (∀ i, listed.getD i false = true → dstAt ops i ≠ some d) → a.eval (.tmp d) = a0.eval (.tmp d)
  done : ∀ i d, listed.getD i false = true → dstAt ops i = some d → factAt Φ i (a.eval (.tmp d)) w

def unlisted (listed : Array Bool) (n : Nat) : Nat := (List.range n).countP fun i => !listed.getD i false

theorem unlisted_set {listed : Array Bool} {n i : Nat} (hs : listed.size = n) (hi : i < n) (hu : listed.getD i false = false) : unlisted (listed.setIfInBounds i true) n < unlisted listed n := by
  unfold unlisted
  have key : ∀ l : List Nat, i ∈ l → (∀ j ∈ l, j < n) → l.countP (fun j => !(listed.setIfInBounds i true).getD j false) < l.countP (fun j => !listed.getD j false) := by
    have mono : ∀ l : List Nat, l.countP (fun j => !(listed.setIfInBounds i true).getD j false) ≤ l.countP (fun j => !listed.getD j false) := by
      intro l
      apply List.countP_mono_left
      intro j _ hj
      by_cases hij : i = j
      · subst hij; simp [hs, hi] at hj
      · rw [getD_set_ne false hij] at hj; exact hj
    intro l
    induction l with
    | nil => intro h _; cases h
    | cons x l ih =>
      intro hm hl
      by_cases hx : x = i
      · subst hx
        have h1 : (!(listed.setIfInBounds x true).getD x false) = false := by simp [hs, hi]
        have h2 : (!listed.getD x false) = true := by rw [hu]; rfl
        rw [List.countP_cons_of_neg (by simpa using h1), List.countP_cons_of_pos (by simpa using h2)]
        have := mono l
        omega
      · have hil : i ∈ l := by
          rcases List.mem_cons.1 hm with h | h
          · exact absurd h.symm hx
          · exact h
        have h3 := ih hil (fun j hj => hl j (List.mem_cons_of_mem _ hj))
        have h4 : (!(listed.setIfInBounds i true).getD x false) = (!listed.getD x false) := by rw [getD_set_ne false (Ne.symm hx)]
        simp only [List.countP_cons]
        rw [h4]
        omega
  exact key _ (List.mem_range.2 hi) (fun j hj => List.mem_range.1 hj)

theorem all_listed {n : Nat} (ht : tidy md ops n = true) {listed : Array Bool} (hs : listed.size = ops.size) (hr : Region.ready md ops listed = []) : ∀ i, i < ops.size → listed.getD i false = true := by
  intro i
  induction i using Nat.strongRecOn with
  | ind i ih =>
    intro hi
    by_cases hl : listed.getD i false = true
    · exact hl
    · have hmem : i ∈ Region.ready md ops listed := by
        rw [mem_ready]
        have hlt : i < listed.size := by omega
        refine ⟨by simpa [hlt] using hl, ops[i], Array.getElem?_eq_getElem hi, fun e he hb => ?_⟩
        have hp : preds md ops i e.on = true := by
          unfold preds
          rw [Array.getElem?_eq_getElem hi]
          exact Array.any_eq_true'.2 ⟨e, he, by simp [hb]⟩
        have hb2 := tidy_before ht hp
        exact ih e.on hb2 (by omega)
      rw [hr] at hmem
      cases hmem

theorem eval_put_same {a : Act} {d : Tmp} {v : Value} (h : d < a.tmps.size) : (a.put (some d) v).eval (.tmp d) = v := by
  simp [Act.put, Act.eval, h]
theorem eval_put_other {a : Act} {dst : Option Tmp} {d : Tmp} {v : Value} (h : dst ≠ some d) : (a.put dst v).eval (.tmp d) = a.eval (.tmp d) := by
  apply Act.eval_put
  intro d' hd' he
  injection he with he
  subst he
  exact h hd'
theorem defers_put (a : Act) (dst : Option Tmp) (v : Value) : (a.put dst v).defers = a.defers := by cases dst <;> rfl
theorem size_put (a : Act) (dst : Option Tmp) (v : Value) : (a.put dst v).tmps.size = a.tmps.size := by cases dst <;> simp [Act.put]

theorem Mid.step (ht : tidy md ops a0.tmps.size = true) (hm : AllMono Φ) {listed : Array Bool} {a : Act} {w w' : World} (h : Mid md ops Φ a0 w0 listed a w) {i : Nat} {o : Oper} (ho : ops[i]? = some o)
    (hr : i ∈ Region.ready md ops listed) {v : Value} (hE : Ev w w') (hv : factAt Φ i v w') : Mid md ops Φ a0 w0 (listed.setIfInBounds i true) (a.put o.dst v) w' := by
  have hi : i < ops.size := (Array.getElem?_eq_some_iff.1 ho).1
  have hdi : dstAt ops i = o.dst := by simp [dstAt, ho]
  have hset : ∀ j, (listed.setIfInBounds i true).getD j false = true → j = i ∨ listed.getD j false = true := by
    intro j hj
    by_cases hij : i = j
    · exact .inl hij.symm
    · rw [getD_set_ne false hij] at hj; exact .inr hj
  refine ⟨by simpa using h.size, h.ev.trans hE, by rw [defers_put]; exact h.defers, by rw [size_put]; exact h.slots, ?_, ?_, ?_⟩
  · intro j k hj hp
    apply getD_set_true
    rcases hset j hj with rfl | hj'
    · obtain ⟨_, o', ho', hall⟩ := mem_ready.1 hr
      rw [ho] at ho'
      obtain rfl := Option.some.inj ho'
      unfold preds at hp
      simp only [ho] at hp
      obtain ⟨e, he, hb⟩ := Array.any_eq_true'.1 hp
      simp only [Bool.and_eq_true, beq_iff_eq] at hb
      rw [← hb.2]
      exact hall e he hb.1
    · exact h.closed j k hj' hp
  · intro d hd
    have hne : o.dst ≠ some d := by
      rw [← hdi]
      exact hd i (by simp [h.size, hi])
    rw [eval_put_other hne]
    exact h.keep d fun j hj => hd j (getD_set_true hj)
  · intro j d hj hd
    rcases hset j hj with rfl | hj'
    · rw [hdi] at hd
      rw [hd]
      have hsz := (tidy_dst ht (by rw [hdi]; exact hd)).1
      rw [eval_put_same (by rw [h.slots]; exact hsz)]
      exact hv
    · by_cases hij : j = i
      · subst hij
        rw [hdi] at hd
        rw [hd]
        have hsz := (tidy_dst ht (by rw [hdi]; exact hd)).1
        rw [eval_put_same (by rw [h.slots]; exact hsz)]
        exact hv
      · have hne : o.dst ≠ some d := by
          rw [← hdi]
          exact (tidy_dst ht hd).2 i (fun e => hij e.symm)
        rw [eval_put_other hne]
        exact factAt_mono Φ hm j _ _ _ hE (h.done j d hj' hd)

theorem wpAny_mid (ht : tidy md ops a0.tmps.size = true) (hm : AllMono Φ)
    (hops : ∀ i o, ops[i]? = some o → OpOk P md ops Q Φ a0 w0 i o)
    (hQ : ∀ a w, Ev w0 w → a.defers = a0.defers → a.tmps.size = a0.tmps.size → (∀ d, nobody ops d = true → a.eval (.tmp d) = a0.eval (.tmp d)) →
      (∀ i d, dstAt ops i = some d → factAt Φ i (a.eval (.tmp d)) w) → Q .normal a w) :
    ∀ (fuel : Nat) (listed : Array Bool) (a : Act) (w : World), unlisted listed ops.size ≤ fuel → Mid md ops Φ a0 w0 listed a w → wpAny P md ops Q fuel listed a w := by
  have fin : ∀ (listed : Array Bool) (a : Act) (w : World), Region.ready md ops listed = [] → Mid md ops Φ a0 w0 listed a w → Q .normal a w := by
    intro listed a w hr h
    have hall := all_listed ht h.size hr
    refine hQ a w h.ev h.defers h.slots (fun d hd => h.keep d fun i hi hid => ?_) (fun i d hd => h.done i d (hall i ?_) hd)
    · have hlt : i < ops.size := by
        unfold dstAt at hid
        cases ho : ops[i]? with
        | none => simp [ho] at hid
        | some o => exact (Array.getElem?_eq_some_iff.1 ho).1
      have := (List.all_eq_true.1 hd) i (List.mem_range.2 hlt)
      simp [hid] at this
    · unfold dstAt at hd
      cases ho : ops[i]? with
      | none => simp [ho] at hd
      | some o => exact (Array.getElem?_eq_some_iff.1 ho).1
  intro fuel
  induction fuel with
  | zero =>
    intro listed a w hu h
    have hr : Region.ready md ops listed = [] := by
      apply List.eq_nil_iff_forall_not_mem.2
      intro i hi
      obtain ⟨h0, o, ho, _⟩ := mem_ready.1 hi
      have hlt : i < ops.size := (Array.getElem?_eq_some_iff.1 ho).1
      have : unlisted listed ops.size = 0 := by omega
      unfold unlisted at this
      rw [List.countP_eq_zero] at this
      have h1 := this i (List.mem_range.2 hlt)
      have hl : i < listed.size := by rw [h.size]; exact hlt
      simp [hl] at h0 h1
      rw [h0] at h1
      cases h1
    exact ⟨hr, fin listed a w hr h⟩
  | succ fuel ih =>
    intro listed a w hu h
    refine ⟨fun hr => fin listed a w hr h, fun i hi => ?_⟩
    obtain ⟨h0, o, ho, hall⟩ := mem_ready.1 hi
    have hlt : i < ops.size := (Array.getElem?_eq_some_iff.1 ho).1
    have hl : i < listed.size := by rw [h.size]; exact hlt
    have hun : listed.getD i false = false := by simpa [hl] using h0
    have hcount := unlisted_set h.size hlt hun
    refine wpOp_step ho fun K' hK' => ?_
    refine hops i o ho a w h.ev h.defers (fun d hd => h.keep d fun j hj hjd => ?_) (fun j d hp hd => ?_) K' (fun v w' hE hv => hK' _ _ (ih _ _ _ (by omega) (h.step ht hm ho hi hE hv)))
    · have hltj : j < ops.size := by
        unfold dstAt at hjd
        cases hoj : ops[j]? with
        | none => simp [hoj] at hjd
        | some o => exact (Array.getElem?_eq_some_iff.1 hoj).1
      have h1 := (List.all_eq_true.1 hd) j (List.mem_range.2 hltj)
      simp only [Bool.or_eq_true, beq_iff_eq, bne_iff_ne] at h1
      rcases h1 with (h1 | h1) | h1
      · subst h1; rw [hun] at hj; cases hj
      · exact h1 hjd
      · have := h.closed j i hj h1
        rw [hun] at this; cases this
    · refine h.done j d ?_ hd
      unfold preds at hp
      simp only [ho] at hp
      obtain ⟨e, he, hb⟩ := Array.any_eq_true'.1 hp
      simp only [Bool.and_eq_true, beq_iff_eq] at hb
      rw [← hb.2]
      exact hall e he hb.1

theorem wp_region_mid {id : Nat} (hmix : P.follows .mixedOrders = true) (Φ : List (Value → World → Prop)) (ht : tidy .any ops a0.tmps.size = true) (hm : AllMono Φ)
    (hops : ∀ i o, ops[i]? = some o → OpOk P .any ops Q Φ a0 w0 i o)
    (hQ : ∀ a w, Ev w0 w → a.defers = a0.defers → a.tmps.size = a0.tmps.size → (∀ d, nobody ops d = true → a.eval (.tmp d) = a0.eval (.tmp d)) →
      (∀ i d, dstAt ops i = some d → factAt Φ i (a.eval (.tmp d)) w) → Q .normal a w) :
    (Code.region id ops true).wp P Q a0 w0 := by
  refine wp_region_any hmix (wpAny_mid ht hm hops hQ ops.size _ _ _ ?_ ⟨by simp, ?_, rfl, rfl, ?_, fun _ _ => rfl, ?_⟩)
  · unfold unlisted
    exact Nat.le_trans List.countP_le_length (by simp)
  · exact ⟨rfl, rfl, rfl, Nat.le_refl _, fun _ _ => rfl⟩
  · intro i j hi
    exfalso
    by_cases hlt : i < ops.size <;> simp [hlt] at hi
  · intro i d hi
    exfalso
    by_cases hlt : i < ops.size <;> simp [hlt] at hi

/-- The operations one by one. -/
theorem ops_nil {R : Nat → Oper → Prop} (k : Nat) : ∀ i o, (([] : List Oper).toArray)[i]? = some o → R (k + i) o := by
  intro i o h
  simp at h
theorem ops_cons {R : Nat → Oper → Prop} {o0 : Oper} {l : List Oper} (k : Nat) (h0 : R k o0) (h : ∀ i o, l.toArray[i]? = some o → R (k + 1 + i) o) : ∀ i o, (o0 :: l).toArray[i]? = some o → R (k + i) o := by
  intro i o hi
  cases i with
  | zero => simp at hi; subst hi; exact h0
  | succ i =>
    have := h i o (by simpa using hi)
    rwa [show k + 1 + i = k + (i + 1) by omega] at this
theorem ops_start {R : Nat → Oper → Prop} {ops : Array Oper} (h : ∀ i o, ops[i]? = some o → R (0 + i) o) : ∀ i o, ops[i]? = some o → R i o := by
  intro i o hi
  have := h i o hi
  rwa [Nat.zero_add] at this

theorem yielded_of {a : Act} {j d : Nat} {b : Bool} (hd : dstAt ops j = some d) (h : a.eval (.tmp d) = .bool b) : yielded ops a.tmps j = some b := by
  unfold dstAt at hd
  unfold yielded
  rw [hd, Option.bind_some]
  simp only [Act.eval] at h
  by_cases hlt : d < a.tmps.size
  · simp [hlt] at h
    simp [hlt, h]
  · simp [hlt, undef] at h

/-- What operation i may know when it runs. -/
structure Ctx (md : Region.Mode) (ops : Array Oper) (Φ : List (Value → World → Prop)) (a0 : Act) (w0 : World) (i : Nat) (a : Act) (w : World) : Prop where
  ev : Ev w0 w
  old : ∀ d, later md ops i d = true → a.eval (.tmp d) = a0.eval (.tmp d)
  new : ∀ j d, preds md ops i j = true → dstAt ops j = some d → factAt Φ j (a.eval (.tmp d)) w
theorem Ctx.was {i : Nat} {a : Act} {w : World} (c : Ctx md ops Φ a0 w0 i a w) (d : Nat) {v : Value} (h : later md ops i d = true) (hv : a0.eval (.tmp d) = v) : a.eval (.tmp d) = v := (c.old d h).trans hv
theorem Ctx.got {i : Nat} {a : Act} {w : World} (c : Ctx md ops Φ a0 w0 i a w) (j d : Nat) {φ : Value → World → Prop} (h : preds md ops i j = true) (hd : dstAt ops j = some d) (hφ : factAt Φ j = φ) : φ (a.eval (.tmp d)) w := hφ ▸ c.new j d h hd

/-- An operation that gives a value in the world as it is. -/
theorem op_value {i : Nat} {o : Oper} (h : ∀ a w, Ctx md ops Φ a0 w0 i a w → Region.wanted o (yielded ops a.tmps) = true ∧ ∃ v, (execOp a.eval o).run P w = .ok (.value v) w ∧ factAt Φ i v w) : OpOk P md ops Q Φ a0 w0 i o := by
  intro a w hE _ hold hnew K hK
  obtain ⟨hw, v, hr, hv⟩ := h a w ⟨hE, hold, hnew⟩
  rw [if_pos hw]
  unfold Oper.wp
  rw [hr]
  exact hK v w (Ev.refl w) hv
/-- One that makes memory. -/
theorem op_makes {i : Nat} {o : Oper} (h : ∀ a w, Ctx md ops Φ a0 w0 i a w → Region.wanted o (yielded ops a.tmps) = true ∧ ∃ v w', (execOp a.eval o).run P w = .ok (.value v) w' ∧ Ev w w' ∧ factAt Φ i v w') : OpOk P md ops Q Φ a0 w0 i o := by
  intro a w hE _ hold hnew K hK
  obtain ⟨hw, v, w', hr, hE', hv⟩ := h a w ⟨hE, hold, hnew⟩
  rw [if_pos hw]
  unfold Oper.wp
  rw [hr]
  exact hK v w' hE' hv
/-- A call of a Go function, by its contract. -/
theorem op_call {i : Nat} {o : Oper} (h : ∀ a w, Ctx md ops Φ a0 w0 i a w → Region.wanted o (yielded ops a.tmps) = true ∧ ∃ f args, (execOp a.eval o).run P w = .ok (.enter f args) w ∧
    Calls P f args w fun e w' => ∃ v, e = .returned v ∧ Ev w w' ∧ factAt Φ i v w') : OpOk P md ops Q Φ a0 w0 i o := by
  intro a w hE _ hold hnew K hK
  obtain ⟨hw, f, args, hr, hc⟩ := h a w ⟨hE, hold, hnew⟩
  rw [if_pos hw]
  unfold Oper.wp
  rw [hr]
  refine hc.mono ?_
  rintro e w' ⟨v, rfl, hE', hv⟩
  exact hK v w' hE' hv
/-- One that its guard passes over. -/
theorem op_skip {i : Nat} {o : Oper} (h : ∀ a w, Ctx md ops Φ a0 w0 i a w → Region.wanted o (yielded ops a.tmps) = false ∧ factAt Φ i undef w) : OpOk P md ops Q Φ a0 w0 i o := by
  intro a w hE _ hold hnew K hK
  obtain ⟨hw, hv⟩ := h a w ⟨hE, hold, hnew⟩
  rw [if_neg (by rw [hw]; exact Bool.false_ne_true)]
  exact hK undef w (Ev.refl w) hv
theorem run_move {ρ : Operand → Value} {o : Oper} (x : Operand) (h : o.op = .move x) (w : World) : (execOp ρ o).run P w = .ok (.value (ρ x)) w := by
  unfold execOp; rw [h]; rfl
theorem run_assign {ρ : Operand → Value} {o : Oper} (x : Operand) (h : o.op = .assign x) (w : World) : (execOp ρ o).run P w = .ok (.value (ρ x)) w := by
  unfold execOp; rw [h]; rfl
theorem run_pick_true {ρ : Operand → Value} {o : Oper} {c x y : Operand} (ho : o.op = .pick c x y) (h : ρ c = .bool true) (w : World) : (execOp ρ o).run P w = .ok (.value (ρ x)) w := by
  unfold execOp; rw [ho]; simp [h, asBool]
theorem run_pick_false {ρ : Operand → Value} {o : Oper} {c x y : Operand} (ho : o.op = .pick c x y) (h : ρ c = .bool false) (w : World) : (execOp ρ o).run P w = .ok (.value (ρ y)) w := by
  unfold execOp; rw [ho]; simp [h, asBool]
theorem evc (a : Act) (v : Value) : a.eval (.const v) = v := rfl
/-- Function f has a body of its own in this program. -/
def bodied (P : Program) (f : FuncId) : Bool := match P.funcs[f]? with | some fn => !(fn.name == "runtime.NumGoroutine") && !fn.body.isNone | none => false
theorem run_enter {f : FuncId} (h : bodied P f = true) (args : Array Value) (w : World) : (callFunc f args).run P w = .ok (.enter f args) w := by
  unfold bodied at h
  cases hf : P.funcs[f]? with
  | none => simp [hf] at h
  | some fn =>
    simp only [hf, Bool.and_eq_true, Bool.not_eq_true'] at h
    have h1 : ¬ fn.name = "runtime.NumGoroutine" := by simpa using h.1
    have h2 : ¬ fn.body = none := by
      intro e
      simp [e] at h
    simp [callFunc, hf, h1, h2]
theorem run_call {a : Act} {o : Oper} (f : FuncId) (xs : Array Operand) (ts : Array TypeId) (ho : o.op = .call { callee := .value (.func f), args := xs, argTypes := ts }) (h : bodied P f = true) (w : World) :
    (execOp a.eval o).run P w = .ok (.enter f (xs.map a.eval)) w := by
  unfold execOp
  rw [ho]
  simp [resolve, Act.eval, Deferred.ofValue, invoke]
  exact run_enter h _ w
theorem wanted_plain {o : Oper} {y : Nat → Option Bool} (h : o.guard = none) : Region.wanted o y = true := by simp [Region.wanted, h]
theorem wanted_yes {o : Oper} {a : Act} {g d : Nat} {b : Bool} (h : o.guard = some (g, b)) (hd : dstAt ops g = some d) (hv : a.eval (.tmp d) = .bool b) : Region.wanted o (yielded ops a.tmps) = true := by
  simp [Region.wanted, h, yielded_of hd hv]
theorem wanted_no {o : Oper} {a : Act} {g d : Nat} {b c : Bool} (h : o.guard = some (g, b)) (hd : dstAt ops g = some d) (hv : a.eval (.tmp d) = .bool c) (hne : c ≠ b) : Region.wanted o (yielded ops a.tmps) = false := by
  simp [Region.wanted, h, yielded_of hd hv, hne]

theorem frame_eq {a : Act} {n : Nat} (h : a.tmps.size = n) : a = ⟨((List.range n).map fun d => a.eval (.tmp d)).toArray, a.defers⟩ := by
  have e : a.tmps = ((List.range n).map fun d => a.eval (.tmp d)).toArray := by
    apply Array.ext
    · simp [h]
    · intro i h1 h2
      simp [Act.eval, h1]
  cases a
  simp only at e ⊢
  rw [← e]

/-- The region, and behind it the frame written out over its slots s. -/
theorem wp_region_slots {id : Nat} (hmix : P.follows .mixedOrders = true) (Φ : List (Value → World → Prop)) (n : Nat) (hn : a0.tmps.size = n) (ht : tidy .any ops n = true) (hm : AllMono Φ)
    (hops : ∀ i o, ops[i]? = some o → OpOk P .any ops Q Φ a0 w0 (0 + i) o)
    (hQ : ∀ (s : Nat → Value) w, Ev w0 w → (∀ d, nobody ops d = true → s d = a0.eval (.tmp d)) →
      (∀ i d, dstAt ops i = some d → factAt Φ i (s d) w) → Q .normal ⟨((List.range n).map s).toArray, a0.defers⟩ w) :
    (Code.region id ops true).wp P Q a0 w0 := by
  subst hn
  refine wp_region_mid hmix Φ ht hm (ops_start hops) ?_
  intro a w hE hd hs hold hnew
  rw [frame_eq hs, hd]
  exact hQ (fun d => a.eval (.tmp d)) w hE hold hnew
end
end Go.Proofs.Ytgiofdmedhhobaa

namespace Go.Proofs.Ytgiofdmedhhobaa
open Go.RowKit
set_option linter.unusedVariables false

section
variable {P : Program} {md : Region.Mode} {ops : Array Oper} {Q : Exit → Act → World → Prop} {Φ : List (Value → World → Prop)} {a0 : Act} {w0 : World}

theorem wpAny_last (ht : tidy md ops a0.tmps.size = true) (hm : AllMono Φ) {m : Nat} {om : Oper} (hom : ops[m]? = some om) (hsz : ops.size = m + 1) (hall : (List.range m).all (fun j => preds md ops m j) = true)
    (hops : ∀ i o, ops[i]? = some o → i < m → OpOk P md ops Q Φ a0 w0 i o)
    (hQ : ∀ a w, Ev w0 w → a.defers = a0.defers → a.tmps.size = a0.tmps.size → (∀ d, nobody ops d = true → a.eval (.tmp d) = a0.eval (.tmp d)) →
      (∀ i d, i < m → dstAt ops i = some d → factAt Φ i (a.eval (.tmp d)) w) →
      Region.wanted om (yielded ops a.tmps) = true ∧ Oper.wp P om a w (Q .normal) Q) :
    ∀ (fuel : Nat) (listed : Array Bool) (a : Act) (w : World), unlisted listed ops.size ≤ fuel → listed.getD m false = false → Mid md ops Φ a0 w0 listed a w → wpAny P md ops Q fuel listed a w := by
  have hmlt : m < ops.size := by omega
  intro fuel
  induction fuel with
  | zero =>
    intro listed a w hu hml h
    exfalso
    have : unlisted listed ops.size = 0 := by omega
    unfold unlisted at this
    rw [List.countP_eq_zero] at this
    exact this m (List.mem_range.2 hmlt) (by rw [hml]; rfl)
  | succ fuel ih =>
    intro listed a w hu hml h
    refine ⟨fun hr => ?_, fun i hi => ?_⟩
    · have := all_listed ht h.size hr m hmlt
      rw [hml] at this
      cases this
    · obtain ⟨h0, o, ho, hbef⟩ := mem_ready.1 hi
      have hlt : i < ops.size := (Array.getElem?_eq_some_iff.1 ho).1
      have hl : i < listed.size := by rw [h.size]; exact hlt
      have hun : listed.getD i false = false := by simpa [hl] using h0
      by_cases him : i = m
      · subst him
        rw [hom] at ho
        obtain rfl := Option.some.inj ho
        have hdone : ∀ j, j < i → listed.getD j false = true := by
          intro j hj
          have hp := (List.all_eq_true.1 hall) j (List.mem_range.2 hj)
          unfold preds at hp
          simp only [hom] at hp
          obtain ⟨e, he, hb⟩ := Array.any_eq_true'.1 hp
          simp only [Bool.and_eq_true, beq_iff_eq] at hb
          rw [← hb.2]
          exact hbef e he hb.1
        obtain ⟨hw, hwp⟩ := hQ a w h.ev h.defers h.slots (fun d hd => h.keep d fun j hj hjd => by
            have hltj : j < ops.size := by
              unfold dstAt at hjd
              cases hoj : ops[j]? with
              | none => simp [hoj] at hjd
              | some o => exact (Array.getElem?_eq_some_iff.1 hoj).1
            have := (List.all_eq_true.1 hd) j (List.mem_range.2 hltj)
            simp [hjd] at this) (fun j d hj hd => h.done j d (hdone j hj) hd)
        refine wpOp_step hom fun K' hK' => ?_
        rw [if_pos hw]
        refine Oper.wp_mono (fun a' w' hq => hK' a' w' (wpAny_done ?_ hq fuel)) hwp
        apply List.eq_nil_iff_forall_not_mem.2
        intro j hj
        obtain ⟨hj0, oj, hoj, _⟩ := mem_ready.1 hj
        have hltj : j < ops.size := (Array.getElem?_eq_some_iff.1 hoj).1
        have hlj : j < (listed.setIfInBounds i true).size := by simp [h.size, hltj]
        have hjt : (listed.setIfInBounds i true).getD j false = true := by
          by_cases hji : j = i
          · subst hji; simp [hl]
          · exact getD_set_true (hdone j (by omega))
        simp only [Array.getD_eq_getD_getElem?, Array.getElem?_eq_getElem hlj, Option.getD_some] at hj0 hjt
        rw [hj0] at hjt
        cases hjt
      · have hcount := unlisted_set h.size hlt hun
        refine wpOp_step ho fun K' hK' => ?_
        refine hops i o ho (by omega) a w h.ev h.defers (fun d hd => h.keep d fun j hj hjd => ?_) (fun j d hp hd => ?_) K' (fun v w' hE hv => hK' _ _ (ih _ _ _ (by omega) ?_ (h.step ht hm ho hi hE hv)))
        · have hltj : j < ops.size := by
            unfold dstAt at hjd
            cases hoj : ops[j]? with
            | none => simp [hoj] at hjd
            | some o => exact (Array.getElem?_eq_some_iff.1 hoj).1
          have h1 := (List.all_eq_true.1 hd) j (List.mem_range.2 hltj)
          simp only [Bool.or_eq_true, beq_iff_eq, bne_iff_ne] at h1
          rcases h1 with (h1 | h1) | h1
          · subst h1; rw [hun] at hj; cases hj
          · exact h1 hjd
          · have := h.closed j i hj h1
            rw [hun] at this; cases this
        · refine h.done j d ?_ hd
          unfold preds at hp
          simp only [ho] at hp
          obtain ⟨e, he, hb⟩ := Array.any_eq_true'.1 hp
          simp only [Bool.and_eq_true, beq_iff_eq] at hb
          rw [← hb.2]
          exact hbef e he hb.1
        · rw [getD_set_ne false him]
          exact hml

/-- The region, its last operation run in the frame written out over its slots s. -/
theorem wp_region_last {id : Nat} (hmix : P.follows .mixedOrders = true) (Φ : List (Value → World → Prop)) (n : Nat) (hn : a0.tmps.size = n) (m : Nat) (om : Oper) (hom : ops[m]? = some om) (hsz : ops.size = m + 1)
    (hall : (List.range m).all (fun j => preds .any ops m j) = true) (ht : tidy .any ops n = true) (hm : AllMono Φ)
    (hops : ∀ i o, ops[i]? = some o → i < m → OpOk P .any ops Q Φ a0 w0 i o)
    (hQ : ∀ (s : Nat → Value) w, Ev w0 w → (∀ d, nobody ops d = true → s d = a0.eval (.tmp d)) → (∀ i d, i < m → dstAt ops i = some d → factAt Φ i (s d) w) →
      Region.wanted om (yielded ops ((List.range n).map s).toArray) = true ∧ Oper.wp P om ⟨((List.range n).map s).toArray, a0.defers⟩ w (Q .normal) Q) :
    (Code.region id ops true).wp P Q a0 w0 := by
  subst hn
  refine wp_region_any hmix (wpAny_last ht hm hom hsz hall hops ?_ ops.size _ _ _ ?_ ?_ ⟨by simp, ?_, rfl, rfl, ?_, fun _ _ => rfl, ?_⟩)
  · intro a w hE hd hs hold hnew
    have hf := frame_eq hs
    rw [hd] at hf
    have hq := hQ (fun d => a.eval (.tmp d)) w hE hold hnew
    rw [hf]
    rw [← hf] at hq ⊢
    exact ⟨by have := hq.1; rwa [show ((List.range a0.tmps.size).map fun d => a.eval (.tmp d)).toArray = a.tmps from (congrArg Act.tmps hf).symm] at this, hq.2⟩
  · unfold unlisted
    exact Nat.le_trans List.countP_le_length (by simp)
  · have hlt : m < ops.size := by omega
    simp [hlt]
  · exact ⟨rfl, rfl, rfl, Nat.le_refl _, fun _ _ => rfl⟩
  · intro i j hi
    exfalso
    by_cases hlt : i < ops.size <;> simp [hlt] at hi
  · intro i d hi
    exfalso
    by_cases hlt : i < ops.size <;> simp [hlt] at hi

theorem opsb_nil {R : Nat → Oper → Prop} {m : Nat} (k : Nat) (o0 : Oper) (hk : m ≤ k) : ∀ i o, ([o0].toArray)[i]? = some o → k + i < m → R (k + i) o := by
  intro i o _ h
  omega
theorem opsb_cons {R : Nat → Oper → Prop} {m : Nat} {o0 : Oper} {l : List Oper} (k : Nat) (h0 : R k o0) (h : ∀ i o, l.toArray[i]? = some o → k + 1 + i < m → R (k + 1 + i) o) : ∀ i o, (o0 :: l).toArray[i]? = some o → k + i < m → R (k + i) o := by
  intro i o hi hlt
  cases i with
  | zero => simp at hi; subst hi; exact h0
  | succ i =>
    have := h i o (by simpa using hi) (by omega)
    rwa [show k + 1 + i = k + (i + 1) by omega] at this
theorem opsb_start {R : Nat → Oper → Prop} {m : Nat} {ops : Array Oper} (h : ∀ i o, ops[i]? = some o → 0 + i < m → R (0 + i) o) : ∀ i o, ops[i]? = some o → i < m → R i o := by
  intro i o hi hlt
  have := h i o hi (by omega)
  rwa [Nat.zero_add] at this
theorem wp_of_skip {o : Oper} {a : Act} {w w' : World} {K : Act → World → Prop} (h : (execOp a.eval o).run P w = .ok .skip w') (hk : K (a.put o.dst undef) w') : Oper.wp P o a w K Q := by
  unfold Oper.wp
  rw [h]
  exact hk
end
end Go.Proofs.Ytgiofdmedhhobaa

namespace Go.Proofs.Ytgiofdmedhhobaa
open Go.RowKit
set_option linter.unusedVariables false

section
variable {P : Program} {md : Region.Mode} {ops : Array Oper} {Q : Exit → Act → World → Prop} {Φ : List (Value → World → Prop)} {a0 : Act} {w0 : World}

theorem wpAny_tail (ht : tidy md ops a0.tmps.size = true) (hm : AllMono Φ) {m : Nat} {om : Oper} (hom : ops[m]? = some om) {o2 : Oper} (ho2 : ops[m + 1]? = some o2) (hsz : ops.size = m + 2) (h2m : preds md ops (m + 1) m = true) (hall : (List.range m).all (fun j => preds md ops m j) = true)
    (hops : ∀ i o, ops[i]? = some o → i < m → OpOk P md ops Q Φ a0 w0 i o)
    (hQ : ∀ a w, Ev w0 w → a.defers = a0.defers → a.tmps.size = a0.tmps.size → (∀ d, nobody ops d = true → a.eval (.tmp d) = a0.eval (.tmp d)) →
      (∀ i d, i < m → dstAt ops i = some d → factAt Φ i (a.eval (.tmp d)) w) →
      Region.wanted om (yielded ops a.tmps) = true ∧ Oper.wp P om a w (fun a' w' => Region.wanted o2 (yielded ops a'.tmps) = true ∧ Oper.wp P o2 a' w' (Q .normal) Q) Q) :
    ∀ (fuel : Nat) (listed : Array Bool) (a : Act) (w : World), unlisted listed ops.size ≤ fuel → listed.getD m false = false → listed.getD (m + 1) false = false → Mid md ops Φ a0 w0 listed a w → wpAny P md ops Q fuel listed a w := by
  have hmlt : m < ops.size := by omega
  intro fuel
  induction fuel with
  | zero =>
    intro listed a w hu hml hml2 h
    exfalso
    have : unlisted listed ops.size = 0 := by omega
    unfold unlisted at this
    rw [List.countP_eq_zero] at this
    exact this m (List.mem_range.2 hmlt) (by rw [hml]; rfl)
  | succ fuel ih =>
    intro listed a w hu hml hml2 h
    refine ⟨fun hr => ?_, fun i hi => ?_⟩
    · have := all_listed ht h.size hr m hmlt
      rw [hml] at this
      cases this
    · obtain ⟨h0, o, ho, hbef⟩ := mem_ready.1 hi
      have hlt : i < ops.size := (Array.getElem?_eq_some_iff.1 ho).1
      have hl : i < listed.size := by rw [h.size]; exact hlt
      have hun : listed.getD i false = false := by simpa [hl] using h0
      by_cases him : i = m
      · subst him
        rw [hom] at ho
        obtain rfl := Option.some.inj ho
        have hdone : ∀ j, j < i → listed.getD j false = true := by
          intro j hj
          have hp := (List.all_eq_true.1 hall) j (List.mem_range.2 hj)
          unfold preds at hp
          simp only [hom] at hp
          obtain ⟨e, he, hb⟩ := Array.any_eq_true'.1 hp
          simp only [Bool.and_eq_true, beq_iff_eq] at hb
          rw [← hb.2]
          exact hbef e he hb.1
        obtain ⟨hw, hwp⟩ := hQ a w h.ev h.defers h.slots (fun d hd => h.keep d fun j hj hjd => by
            have hltj : j < ops.size := by
              unfold dstAt at hjd
              cases hoj : ops[j]? with
              | none => simp [hoj] at hjd
              | some o => exact (Array.getElem?_eq_some_iff.1 hoj).1
            have := (List.all_eq_true.1 hd) j (List.mem_range.2 hltj)
            simp [hjd] at this) (fun j d hj hd => h.done j d (hdone j hj) hd)
        refine wpOp_step hom fun K' hK' => ?_
        rw [if_pos hw]
        have hl2 : i + 1 < listed.size := by rw [h.size]; omega
        have hset : ∀ j, j < ops.size → j ≠ i + 1 → (listed.setIfInBounds i true).getD j false = true := by
          intro j hj hne
          by_cases hji : j = i
          · subst hji; simp [hl]
          · exact getD_set_true (hdone j (by omega))
        have hf1 : (listed.setIfInBounds i true).getD (i + 1) false = false := by rw [getD_set_ne false (by omega)]; exact hml2
        have hfu : 1 ≤ fuel := by
          have := unlisted_set h.size hlt hun
          have h3 := unlisted_set (listed := listed.setIfInBounds i true) (i := i + 1) (by simpa using h.size) (by omega) hf1
          omega
        obtain ⟨fuel', rfl⟩ : ∃ f, fuel = f + 1 := ⟨fuel - 1, by omega⟩
        refine Oper.wp_mono (fun a' w' hq => hK' a' w' ⟨fun hr => ?_, fun j hj => ?_⟩) hwp
        · exfalso
          have : i + 1 ∈ Region.ready md ops (listed.setIfInBounds i true) := by
            rw [mem_ready]
            refine ⟨by simp only [Array.getD_eq_getD_getElem?] at hf1; simpa [hl2] using hf1, o2, ho2, fun e he hb => ?_⟩
            have hp : preds md ops (i + 1) e.on = true := by
              unfold preds
              rw [ho2]
              exact Array.any_eq_true'.2 ⟨e, he, by simp [hb]⟩
            have hb2 := tidy_before ht hp
            exact hset e.on (by omega) (by omega)
          rw [hr] at this
          cases this
        · have hj1 : j = i + 1 := by
            obtain ⟨hj0, oj, hoj, _⟩ := mem_ready.1 hj
            have hltj : j < ops.size := (Array.getElem?_eq_some_iff.1 hoj).1
            by_cases hne : j = i + 1
            · exact hne
            · have h4 := hset j hltj hne
              have hlj : j < (listed.setIfInBounds i true).size := by simp [h.size, hltj]
              simp only [Array.getD_eq_getD_getElem?, Array.getElem?_eq_getElem hlj, Option.getD_some] at hj0 h4
              rw [hj0] at h4
              cases h4
          subst hj1
          refine wpOp_step ho2 fun K2 hK2 => ?_
          rw [if_pos hq.1]
          refine Oper.wp_mono (fun a2 w2 hq2 => hK2 a2 w2 (wpAny_done ?_ hq2 fuel')) hq.2
          apply List.eq_nil_iff_forall_not_mem.2
          intro j hj
          obtain ⟨hj0, oj, hoj, _⟩ := mem_ready.1 hj
          have hltj : j < ops.size := (Array.getElem?_eq_some_iff.1 hoj).1
          have hlj : j < ((listed.setIfInBounds i true).setIfInBounds (i + 1) true).size := by simp [h.size, hltj]
          have hjt : ((listed.setIfInBounds i true).setIfInBounds (i + 1) true).getD j false = true := by
            by_cases hji : j = i + 1
            · subst hji; simp [hl2]
            · exact getD_set_true (hset j hltj hji)
          simp only [Array.getD_eq_getD_getElem?, Array.getElem?_eq_getElem hlj, Option.getD_some] at hj0 hjt
          rw [hj0] at hjt
          cases hjt
      · have hcount := unlisted_set h.size hlt hun
        refine wpOp_step ho fun K' hK' => ?_
        have him1 : i ≠ m + 1 := by
          rintro rfl
          have h5 := h2m
          unfold preds at h5
          simp only [ho] at h5
          obtain ⟨e, he, hb⟩ := Array.any_eq_true'.1 h5
          simp only [Bool.and_eq_true, beq_iff_eq] at hb
          have h6 := hbef e he hb.1
          rw [hb.2, hml] at h6
          cases h6
        refine hops i o ho (by omega) a w h.ev h.defers (fun d hd => h.keep d fun j hj hjd => ?_) (fun j d hp hd => ?_) K' (fun v w' hE hv => hK' _ _ (ih _ _ _ (by omega) ?_ ?_ (h.step ht hm ho hi hE hv)))
        · have hltj : j < ops.size := by
            unfold dstAt at hjd
            cases hoj : ops[j]? with
            | none => simp [hoj] at hjd
            | some o => exact (Array.getElem?_eq_some_iff.1 hoj).1
          have h1 := (List.all_eq_true.1 hd) j (List.mem_range.2 hltj)
          simp only [Bool.or_eq_true, beq_iff_eq, bne_iff_ne] at h1
          rcases h1 with (h1 | h1) | h1
          · subst h1; rw [hun] at hj; cases hj
          · exact h1 hjd
          · have := h.closed j i hj h1
            rw [hun] at this; cases this
        · refine h.done j d ?_ hd
          unfold preds at hp
          simp only [ho] at hp
          obtain ⟨e, he, hb⟩ := Array.any_eq_true'.1 hp
          simp only [Bool.and_eq_true, beq_iff_eq] at hb
          rw [← hb.2]
          exact hbef e he hb.1
        · rw [getD_set_ne false him]
          exact hml
        · rw [getD_set_ne false him1]
          exact hml2

/-- The region, its last operation run in the frame written out over its slots s. -/
theorem wp_region_tail {id : Nat} (hmix : P.follows .mixedOrders = true) (Φ : List (Value → World → Prop)) (n : Nat) (hn : a0.tmps.size = n) (m : Nat) (om : Oper) (hom : ops[m]? = some om) (o2 : Oper) (ho2 : ops[m + 1]? = some o2) (hsz : ops.size = m + 2) (h2m : preds .any ops (m + 1) m = true)
    (hall : (List.range m).all (fun j => preds .any ops m j) = true) (ht : tidy .any ops n = true) (hm : AllMono Φ)
    (hops : ∀ i o, ops[i]? = some o → i < m → OpOk P .any ops Q Φ a0 w0 i o)
    (hQ : ∀ (s : Nat → Value) w, Ev w0 w → (∀ d, nobody ops d = true → s d = a0.eval (.tmp d)) → (∀ i d, i < m → dstAt ops i = some d → factAt Φ i (s d) w) →
      Region.wanted om (yielded ops ((List.range n).map s).toArray) = true ∧ Oper.wp P om ⟨((List.range n).map s).toArray, a0.defers⟩ w (fun a' w' => Region.wanted o2 (yielded ops a'.tmps) = true ∧ Oper.wp P o2 a' w' (Q .normal) Q) Q) :
    (Code.region id ops true).wp P Q a0 w0 := by
  subst hn
  refine wp_region_any hmix (wpAny_tail ht hm hom ho2 hsz h2m hall hops ?_ ops.size _ _ _ ?_ ?_ ?_ ⟨by simp, ?_, rfl, rfl, ?_, fun _ _ => rfl, ?_⟩)
  · intro a w hE hd hs hold hnew
    have hf := frame_eq hs
    rw [hd] at hf
    have hq := hQ (fun d => a.eval (.tmp d)) w hE hold hnew
    rw [hf]
    rw [← hf] at hq ⊢
    exact ⟨by have := hq.1; rwa [show ((List.range a0.tmps.size).map fun d => a.eval (.tmp d)).toArray = a.tmps from (congrArg Act.tmps hf).symm] at this, hq.2⟩
  · unfold unlisted
    exact Nat.le_trans List.countP_le_length (by simp)
  · have hlt : m < ops.size := by omega
    simp [hlt]
  · have hlt : m + 1 < ops.size := by omega
    simp [hlt]
  · exact ⟨rfl, rfl, rfl, Nat.le_refl _, fun _ _ => rfl⟩
  · intro i j hi
    exfalso
    by_cases hlt : i < ops.size <;> simp [hlt] at hi
  · intro i d hi
    exfalso
    by_cases hlt : i < ops.size <;> simp [hlt] at hi

end
end Go.Proofs.Ytgiofdmedhhobaa

namespace Go.Proofs.Ytgiofdmedhhobaa
open Go.RowKit
set_option linter.unusedVariables false

/-- What operation j may ask of operation i: not of one of D, but ahead of p, or being p. -/
def availAt (md : Region.Mode) (ops : Array Oper) (D : List Nat) (p j i : Nat) : Bool := !D.contains i || j == p || preds md ops p j
def AnyW (φ : Value → World → Prop) : Prop := ∀ v w w', φ v w → φ v w'
theorem any_eq (x : Value) : AnyW (fun v _ => v = x) := fun _ _ _ h => h
theorem any_true : AnyW (fun _ _ => True) := fun _ _ _ h => h
/-- Each fact: of p, of one behind p, of a dead one, or of the value alone. -/
def AllD (md : Region.Mode) (ops : Array Oper) (D : List Nat) (p : Nat) : Nat → List (Value → World → Prop) → Prop
  | _, [] => True
  | k, φ :: l => ((k == p || preds md ops k p || D.contains k) = true ∨ AnyW φ) ∧ AllD md ops D p (k + 1) l
theorem factAt_any {md : Region.Mode} {ops : Array Oper} {D : List Nat} {p : Nat} : ∀ (Φ : List (Value → World → Prop)) (k : Nat), AllD md ops D p k Φ → ∀ i, (k + i == p || preds md ops (k + i) p || D.contains (k + i)) = false → AnyW (factAt Φ i)
  | [], _, _, i, _ => fun _ _ _ _ => trivial
  | φ :: l, k, h, 0, hn => by
    rcases h.1 with h1 | h1
    · rw [Nat.add_zero, h1] at hn; cases hn
    · exact h1
  | φ :: l, k, h, i + 1, hn => factAt_any l (k + 1) h.2 i (by rwa [show k + 1 + i = k + (i + 1) by omega])

section
variable {P : Program} {md : Region.Mode} {ops : Array Oper} {Q : Exit → Act → World → Prop} {Φ : List (Value → World → Prop)} {a0 : Act} {w0 : World} {D : List Nat} {p : Nat}

/-- What operation i may turn. -/
def TurnsD (w0 : World) (p i : Nat) (w w' : World) : Prop := if i = p then Ev w0 w' else Ev w w'
/-- What operation i may know when it runs. -/
structure CtxD (md : Region.Mode) (ops : Array Oper) (Φ : List (Value → World → Prop)) (a0 : Act) (w0 : World) (D : List Nat) (p i : Nat) (a : Act) (w : World) : Prop where
  ev : Ev w0 w
  old : ∀ d, later md ops i d = true → a.eval (.tmp d) = a0.eval (.tmp d)
  new : ∀ j d, preds md ops i j = true → dstAt ops j = some d → availAt md ops D p i j = true → factAt Φ j (a.eval (.tmp d)) w
theorem CtxD.was {i : Nat} {a : Act} {w : World} (c : CtxD md ops Φ a0 w0 D p i a w) (d : Nat) {v : Value} (h : later md ops i d = true) (hv : a0.eval (.tmp d) = v) : a.eval (.tmp d) = v := (c.old d h).trans hv
def OpOkD (P : Program) (md : Region.Mode) (ops : Array Oper) (Q : Exit → Act → World → Prop) (Φ : List (Value → World → Prop)) (a0 : Act) (w0 : World) (D : List Nat) (p i : Nat) (o : Oper) : Prop :=
  ∀ (a : Act) (w : World), CtxD md ops Φ a0 w0 D p i a w →
    ∀ K : Act → World → Prop, (∀ v w', TurnsD w0 p i w w' → factAt Φ i v w' → K (a.put o.dst v) w') →
    if Region.wanted o (yielded ops a.tmps) = true then Oper.wp P o a w K Q else K (a.put o.dst undef) w

structure MidD (md : Region.Mode) (ops : Array Oper) (Φ : List (Value → World → Prop)) (a0 : Act) (w0 : World) (D : List Nat) (p : Nat) (listed : Array Bool) (a : Act) (w : World) : Prop where
  size : listed.size = ops.size
  ev : Ev w0 w
  defers : a.defers = a0.defers
  slots : a.tmps.size = a0.tmps.size
  closed : ∀ i j, listed.getD i false = true → preds md ops i j = true → listed.getD j false = true
  keep : ∀ d, (∀ i, listed.getD i false = true → dstAt ops i ≠ some d) → a.eval (.tmp d) = a0.eval (.tmp d)
  done : ∀ i d, listed.getD i false = true → dstAt ops i = some d → (listed.getD p false = false ∨ i = p ∨ D.contains i = false) → factAt Φ i (a.eval (.tmp d)) w

theorem MidD.step (ht : tidy md ops a0.tmps.size = true) (hm : AllMono Φ) (hd : AllD md ops D p 0 Φ) {listed : Array Bool} {a : Act} {w w' : World} (h : MidD md ops Φ a0 w0 D p listed a w) {i : Nat} {o : Oper} (ho : ops[i]? = some o)
    (hr : i ∈ Region.ready md ops listed) {v : Value} (hun : listed.getD i false = false) (hE : TurnsD w0 p i w w') (hv : factAt Φ i v w') : MidD md ops Φ a0 w0 D p (listed.setIfInBounds i true) (a.put o.dst v) w' := by
  have hi : i < ops.size := (Array.getElem?_eq_some_iff.1 ho).1
  have hdi : dstAt ops i = o.dst := by simp [dstAt, ho]
  have hset : ∀ j, (listed.setIfInBounds i true).getD j false = true → j = i ∨ listed.getD j false = true := by
    intro j hj
    by_cases hij : i = j
    · exact .inl hij.symm
    · rw [getD_set_ne false hij] at hj; exact .inr hj
  refine ⟨by simpa using h.size, ?_, by rw [defers_put]; exact h.defers, by rw [size_put]; exact h.slots, ?_, ?_, ?_⟩
  · unfold TurnsD at hE
    split at hE
    · exact hE
    · exact h.ev.trans hE
  · intro j k hj hp
    apply getD_set_true
    rcases hset j hj with rfl | hj'
    · obtain ⟨_, o', ho', hall⟩ := mem_ready.1 hr
      rw [ho] at ho'
      obtain rfl := Option.some.inj ho'
      unfold preds at hp
      simp only [ho] at hp
      obtain ⟨e, he, hb⟩ := Array.any_eq_true'.1 hp
      simp only [Bool.and_eq_true, beq_iff_eq] at hb
      rw [← hb.2]
      exact hall e he hb.1
    · exact h.closed j k hj' hp
  · intro d hd
    have hne : o.dst ≠ some d := by
      rw [← hdi]
      exact hd i (by simp [h.size, hi])
    rw [eval_put_other hne]
    exact h.keep d fun j hj => hd j (getD_set_true hj)
  · intro j d hj hdd hlive
    by_cases hji : j = i
    · subst hji
      rw [hdi] at hdd
      rw [hdd]
      have hsz := (tidy_dst ht (by rw [hdi]; exact hdd)).1
      rw [eval_put_same (by rw [h.slots]; exact hsz)]
      exact hv
    · have hj' : listed.getD j false = true := (hset j hj).resolve_left hji
      have hne : o.dst ≠ some d := by
        rw [← hdi]
        exact (tidy_dst ht hdd).2 i (fun e => hji e.symm)
      rw [eval_put_other hne]
      by_cases hip : i = p
      · subst hip
        have hlive' : D.contains j = false := by
          rcases hlive with h1 | h1 | h1
          · rw [show (listed.setIfInBounds i true).getD i false = true by simp [h.size, hi]] at h1; cases h1
          · exact absurd h1 hji
          · exact h1
        have hnp : preds md ops j i = false := by
          cases hpm : preds md ops j i
          · rfl
          · have := h.closed j i hj' hpm
            rw [hun] at this; cases this
        refine factAt_any Φ 0 hd j ?_ _ _ _ (h.done j d hj' hdd (.inl hun))
        rw [Nat.zero_add, hnp, hlive']
        simp [hji]
      · have hE' : Ev w w' := by
          unfold TurnsD at hE
          rwa [if_neg hip] at hE
        refine factAt_mono Φ hm j _ _ _ hE' (h.done j d hj' hdd ?_)
        rcases hlive with h1 | h1 | h1
        · rw [getD_set_ne false hip] at h1
          exact .inl h1
        · exact .inr (.inl h1)
        · exact .inr (.inr h1)

theorem wpAny_lastD (ht : tidy md ops a0.tmps.size = true) (hm : AllMono Φ) (hd : AllD md ops D p 0 Φ) {m : Nat} {om : Oper} (hom : ops[m]? = some om) (hsz : ops.size = m + 1) (hall : (List.range m).all (fun j => preds md ops m j || (List.range m).any (fun k => preds md ops m k && preds md ops k j)) = true)
    (hops : ∀ i o, ops[i]? = some o → i < m → OpOkD P md ops Q Φ a0 w0 D p i o)
    (hQ : ∀ a w, Ev w0 w → a.defers = a0.defers → a.tmps.size = a0.tmps.size → (∀ d, nobody ops d = true → a.eval (.tmp d) = a0.eval (.tmp d)) →
      (∀ i d, i < m → (i == p || !D.contains i) = true → dstAt ops i = some d → factAt Φ i (a.eval (.tmp d)) w) →
      Region.wanted om (yielded ops a.tmps) = true ∧ Oper.wp P om a w (Q .normal) Q) :
    ∀ (fuel : Nat) (listed : Array Bool) (a : Act) (w : World), unlisted listed ops.size ≤ fuel → listed.getD m false = false → MidD md ops Φ a0 w0 D p listed a w → wpAny P md ops Q fuel listed a w := by
  have hmlt : m < ops.size := by omega
  intro fuel
  induction fuel with
  | zero =>
    intro listed a w hu hml h
    exfalso
    have : unlisted listed ops.size = 0 := by omega
    unfold unlisted at this
    rw [List.countP_eq_zero] at this
    exact this m (List.mem_range.2 hmlt) (by rw [hml]; rfl)
  | succ fuel ih =>
    intro listed a w hu hml h
    refine ⟨fun hr => ?_, fun i hi => ?_⟩
    · have := all_listed ht h.size hr m hmlt
      rw [hml] at this
      cases this
    · obtain ⟨h0, o, ho, hbef⟩ := mem_ready.1 hi
      have hlt : i < ops.size := (Array.getElem?_eq_some_iff.1 ho).1
      have hl : i < listed.size := by rw [h.size]; exact hlt
      have hun : listed.getD i false = false := by simpa [hl] using h0
      by_cases him : i = m
      · subst him
        rw [hom] at ho
        obtain rfl := Option.some.inj ho
        have hdone : ∀ j, j < i → listed.getD j false = true := by
          intro j hj
          have hdir : ∀ k, preds md ops i k = true → listed.getD k false = true := fun k hp => by
            unfold preds at hp
            simp only [hom] at hp
            obtain ⟨e, he, hb⟩ := Array.any_eq_true'.1 hp
            simp only [Bool.and_eq_true, beq_iff_eq] at hb
            rw [← hb.2]
            exact hbef e he hb.1
          have hp := (List.all_eq_true.1 hall) j (List.mem_range.2 hj)
          rcases Bool.or_eq_true _ _ ▸ hp with h1 | h1
          · exact hdir j h1
          · obtain ⟨k, _, hk⟩ := List.any_eq_true.1 h1
            rw [Bool.and_eq_true] at hk
            exact h.closed k j (hdir k hk.1) hk.2
        obtain ⟨hw, hwp⟩ := hQ a w h.ev h.defers h.slots (fun d hd => h.keep d fun j hj hjd => by
            have hltj : j < ops.size := by
              unfold dstAt at hjd
              cases hoj : ops[j]? with
              | none => simp [hoj] at hjd
              | some o => exact (Array.getElem?_eq_some_iff.1 hoj).1
            have := (List.all_eq_true.1 hd) j (List.mem_range.2 hltj)
            simp [hjd] at this) (fun j d hj hlv hd => h.done j d (hdone j hj) hd (by
              simp only [Bool.or_eq_true, beq_iff_eq, Bool.not_eq_true'] at hlv
              exact .inr hlv))
        refine wpOp_step hom fun K' hK' => ?_
        rw [if_pos hw]
        refine Oper.wp_mono (fun a' w' hq => hK' a' w' (wpAny_done ?_ hq fuel)) hwp
        apply List.eq_nil_iff_forall_not_mem.2
        intro j hj
        obtain ⟨hj0, oj, hoj, _⟩ := mem_ready.1 hj
        have hltj : j < ops.size := (Array.getElem?_eq_some_iff.1 hoj).1
        have hlj : j < (listed.setIfInBounds i true).size := by simp [h.size, hltj]
        have hjt : (listed.setIfInBounds i true).getD j false = true := by
          by_cases hji : j = i
          · subst hji; simp [hl]
          · exact getD_set_true (hdone j (by omega))
        simp only [Array.getD_eq_getD_getElem?, Array.getElem?_eq_getElem hlj, Option.getD_some] at hj0 hjt
        rw [hj0] at hjt
        cases hjt
      · have hcount := unlisted_set h.size hlt hun
        have hpre : ∀ j, preds md ops i j = true → listed.getD j false = true := fun j hp => by
          unfold preds at hp
          simp only [ho] at hp
          obtain ⟨e, he, hb⟩ := Array.any_eq_true'.1 hp
          simp only [Bool.and_eq_true, beq_iff_eq] at hb
          rw [← hb.2]
          exact hbef e he hb.1
        refine wpOp_step ho fun K' hK' => ?_
        refine hops i o ho (by omega) a w ⟨h.ev, fun d hd => h.keep d fun j hj hjd => ?_, fun j d hp hd hav => ?_⟩ K' (fun v w' hE hv => hK' _ _ (ih _ _ _ (by omega) ?_ (h.step ht hm hd ho hi hun hE hv)))
        · have hltj : j < ops.size := by
            unfold dstAt at hjd
            cases hoj : ops[j]? with
            | none => simp [hoj] at hjd
            | some o => exact (Array.getElem?_eq_some_iff.1 hoj).1
          have h1 := (List.all_eq_true.1 hd) j (List.mem_range.2 hltj)
          simp only [Bool.or_eq_true, beq_iff_eq, bne_iff_ne] at h1
          rcases h1 with (h1 | h1) | h1
          · subst h1; rw [hun] at hj; cases hj
          · exact h1 hjd
          · have := h.closed j i hj h1
            rw [hun] at this; cases this
        · refine h.done j d (hpre j hp) hd ?_
          cases hpl : listed.getD p false with
          | false => exact .inl rfl
          | true =>
            refine .inr ?_
            unfold availAt at hav
            cases hdd : D.contains j with
            | false => exact .inr rfl
            | true =>
              exfalso
              rw [hdd] at hav
              simp only [Bool.not_true, Bool.false_or, Bool.or_eq_true, beq_iff_eq] at hav
              rcases hav with h1 | h1
              · subst h1; rw [hun] at hpl; cases hpl
              · have := h.closed p i hpl h1
                rw [hun] at this; cases this
        · rw [getD_set_ne false him]
          exact hml

/-- The region, its last operation run in the frame written out over its slots s. -/
theorem wp_region_lastD {id : Nat} (hmix : P.follows .mixedOrders = true) (D : List Nat) (p : Nat) (Φ : List (Value → World → Prop)) (n : Nat) (hn : a0.tmps.size = n) (m : Nat) (om : Oper) (hom : ops[m]? = some om) (hsz : ops.size = m + 1)
    (hall : (List.range m).all (fun j => preds .any ops m j || (List.range m).any (fun k => preds .any ops m k && preds .any ops k j)) = true) (ht : tidy .any ops n = true) (hm : AllMono Φ) (hdd : AllD .any ops D p 0 Φ)
    (hops : ∀ i o, ops[i]? = some o → i < m → OpOkD P .any ops Q Φ a0 w0 D p i o)
    (hQ : ∀ (s : Nat → Value) w, Ev w0 w → (∀ d, nobody ops d = true → s d = a0.eval (.tmp d)) → (∀ i d, i < m → (i == p || !D.contains i) = true → dstAt ops i = some d → factAt Φ i (s d) w) →
      Region.wanted om (yielded ops ((List.range n).map s).toArray) = true ∧ Oper.wp P om ⟨((List.range n).map s).toArray, a0.defers⟩ w (Q .normal) Q) :
    (Code.region id ops true).wp P Q a0 w0 := by
  subst hn
  refine wp_region_any hmix (wpAny_lastD ht hm hdd hom hsz hall hops ?_ ops.size _ _ _ ?_ ?_ ⟨by simp, ?_, rfl, rfl, ?_, fun _ _ => rfl, ?_⟩)
  · intro a w hE hd hs hold hnew
    have hf := frame_eq hs
    rw [hd] at hf
    have hq := hQ (fun d => a.eval (.tmp d)) w hE hold hnew
    rw [hf]
    rw [← hf] at hq ⊢
    exact ⟨by have := hq.1; rwa [show ((List.range a0.tmps.size).map fun d => a.eval (.tmp d)).toArray = a.tmps from (congrArg Act.tmps hf).symm] at this, hq.2⟩
  · unfold unlisted
    exact Nat.le_trans List.countP_le_length (by simp)
  · have hlt : m < ops.size := by omega
    simp [hlt]
  · exact ⟨rfl, rfl, rfl, Nat.le_refl _, fun _ _ => rfl⟩
  · intro i j hi
    exfalso
    by_cases hlt : i < ops.size <;> simp [hlt] at hi
  · intro i d hi
    exfalso
    by_cases hlt : i < ops.size <;> simp [hlt] at hi

theorem opd_value {i : Nat} {o : Oper} (hi : i ≠ p) (h : ∀ a w, CtxD md ops Φ a0 w0 D p i a w → Region.wanted o (yielded ops a.tmps) = true ∧ ∃ v, (execOp a.eval o).run P w = .ok (.value v) w ∧ factAt Φ i v w) : OpOkD P md ops Q Φ a0 w0 D p i o := by
  intro a w c L hL
  obtain ⟨hw, v, hr, hv⟩ := h a w c
  rw [if_pos hw]
  unfold Oper.wp
  rw [hr]
  exact hL v w (by unfold TurnsD; rw [if_neg hi]; exact Ev.refl w) hv
theorem opd_makes {i : Nat} {o : Oper} (h : ∀ a w, CtxD md ops Φ a0 w0 D p i a w → Region.wanted o (yielded ops a.tmps) = true ∧ ∃ v w', (execOp a.eval o).run P w = .ok (.value v) w' ∧ TurnsD w0 p i w w' ∧ factAt Φ i v w') : OpOkD P md ops Q Φ a0 w0 D p i o := by
  intro a w c L hL
  obtain ⟨hw, v, w', hr, hE', hv⟩ := h a w c
  rw [if_pos hw]
  unfold Oper.wp
  rw [hr]
  exact hL v w' hE' hv
end
end Go.Proofs.Ytgiofdmedhhobaa

namespace Go.Proofs.Ytgiofdmedhhobaa
open Go.RowKit
set_option linter.unusedVariables false

section
variable {P : Program} {md : Region.Mode} {ops : Array Oper} {Q : Exit → Act → World → Prop} {Φ : List (Value → World → Prop)} {a0 : Act} {w0 : World} {J : World → World → Prop} {m dm : Nat} {Ψ : Value → World → Prop}

def AllMonoN (md : Region.Mode) (ops : Array Oper) (J : World → World → Prop) (m : Nat) : Nat → List (Value → World → Prop) → Prop
  | _, [] => True
  | k, φ :: l => (k = m ∨ preds md ops k m = true ∨ ∀ v w w', J w w' → φ v w → φ v w') ∧ AllMonoN md ops J m (k + 1) l
theorem factAt_monoN : ∀ (Φ : List (Value → World → Prop)) (k : Nat), AllMonoN md ops J m k Φ → ∀ i, k + i ≠ m → preds md ops (k + i) m = false → ∀ v w w', J w w' → factAt Φ i v w → factAt Φ i v w'
  | [], _, _, i, _, _ => fun _ _ _ _ _ => trivial
  | φ :: l, k, h, 0, hn, hp => by
    rcases h.1 with h1 | h1 | h1
    · exact absurd h1 hn
    · rw [Nat.add_zero, h1] at hp; cases hp
    · exact h1
  | φ :: l, k, h, i + 1, hn, hp => factAt_monoN l (k + 1) h.2 i (by omega) (by rwa [show k + 1 + i = k + (i + 1) by omega])
/-- Operation m: a store. -/
def StoreOk (P : Program) (md : Region.Mode) (ops : Array Oper) (Q : Exit → Act → World → Prop) (Φ : List (Value → World → Prop)) (a0 : Act) (w0 : World) (J : World → World → Prop) (m dm : Nat) (Ψ : Value → World → Prop) (o : Oper) : Prop :=
  o.dst = none ∧ ∀ (a : Act) (w : World), Ctx md ops Φ a0 w0 m a w → Region.wanted o (yielded ops a.tmps) = true ∧ ∃ w', (execOp a.eval o).run P w = .ok .skip w' ∧ J w w' ∧ Ev w0 w' ∧ Ψ (a.eval (.tmp dm)) w'

theorem Mid.store (hmn : AllMonoN md ops J m 0 Φ) {listed : Array Bool} {a : Act} {w w' : World} (h : Mid md ops Φ a0 w0 listed a w) {o : Oper} (ho : ops[m]? = some o) (hd0 : o.dst = none)
    (hr : m ∈ Region.ready md ops listed) (hun : listed.getD m false = false) (hJ : J w w') (hE : Ev w0 w') : Mid md ops Φ a0 w0 (listed.setIfInBounds m true) a w' := by
  have hi : m < ops.size := (Array.getElem?_eq_some_iff.1 ho).1
  have hdi : dstAt ops m = none := by simp [dstAt, ho, hd0]
  have hset : ∀ j, (listed.setIfInBounds m true).getD j false = true → j = m ∨ listed.getD j false = true := by
    intro j hj
    by_cases hij : m = j
    · exact .inl hij.symm
    · rw [getD_set_ne false hij] at hj; exact .inr hj
  refine ⟨by simpa using h.size, hE, h.defers, h.slots, ?_, ?_, ?_⟩
  · intro j k hj hp
    apply getD_set_true
    rcases hset j hj with rfl | hj'
    · obtain ⟨_, o', ho', hall⟩ := mem_ready.1 hr
      rw [ho] at ho'
      obtain rfl := Option.some.inj ho'
      unfold preds at hp
      simp only [ho] at hp
      obtain ⟨e, he, hb⟩ := Array.any_eq_true'.1 hp
      simp only [Bool.and_eq_true, beq_iff_eq] at hb
      rw [← hb.2]
      exact hall e he hb.1
    · exact h.closed j k hj' hp
  · intro d hd
    exact h.keep d fun j hj => hd j (getD_set_true hj)
  · intro j d hj hd
    rcases hset j hj with rfl | hj'
    · rw [hdi] at hd; cases hd
    · have hjm : j ≠ m := by rintro rfl; rw [hdi] at hd; cases hd
      refine factAt_monoN Φ 0 hmn j (by omega) ?_ _ _ _ hJ (h.done j d hj' hd)
      rw [Nat.zero_add]
      cases hpm : preds md ops j m
      · rfl
      · have := h.closed j m hj' hpm
        rw [hun] at this; cases this

theorem wpAny_midN (ht : tidy md ops a0.tmps.size = true) (hm : AllMono Φ) (hmn : AllMonoN md ops J m 0 Φ) (hΨ : Mono Ψ) {om : Oper} (hom : ops[m]? = some om) {jm : Nat} (hjm : preds md ops m jm = true) (hjd : dstAt ops jm = some dm)
    (hops : ∀ i o, ops[i]? = some o → i ≠ m → OpOk P md ops Q Φ a0 w0 i o) (hst : StoreOk P md ops Q Φ a0 w0 J m dm Ψ om)
    (hQ : ∀ a w, Ev w0 w → a.defers = a0.defers → a.tmps.size = a0.tmps.size → (∀ d, nobody ops d = true → a.eval (.tmp d) = a0.eval (.tmp d)) →
      (∀ i d, dstAt ops i = some d → factAt Φ i (a.eval (.tmp d)) w) → Ψ (a.eval (.tmp dm)) w → Q .normal a w) :
    ∀ (fuel : Nat) (listed : Array Bool) (a : Act) (w : World), unlisted listed ops.size ≤ fuel → Mid md ops Φ a0 w0 listed a w → (listed.getD m false = true → Ψ (a.eval (.tmp dm)) w) → wpAny P md ops Q fuel listed a w := by
  have hmlt : m < ops.size := (Array.getElem?_eq_some_iff.1 hom).1
  have fin : ∀ (listed : Array Bool) (a : Act) (w : World), Region.ready md ops listed = [] → Mid md ops Φ a0 w0 listed a w → (listed.getD m false = true → Ψ (a.eval (.tmp dm)) w) → Q .normal a w := by
    intro listed a w hr h hp
    have hall := all_listed ht h.size hr
    refine hQ a w h.ev h.defers h.slots (fun d hd => h.keep d fun i hi hid => ?_) (fun i d hd => h.done i d (hall i ?_) hd) (hp (hall m hmlt))
    · have hlt : i < ops.size := by
        unfold dstAt at hid
        cases ho : ops[i]? with
        | none => simp [ho] at hid
        | some o => exact (Array.getElem?_eq_some_iff.1 ho).1
      have := (List.all_eq_true.1 hd) i (List.mem_range.2 hlt)
      simp [hid] at this
    · unfold dstAt at hd
      cases ho : ops[i]? with
      | none => simp [ho] at hd
      | some o => exact (Array.getElem?_eq_some_iff.1 ho).1
  intro fuel
  induction fuel with
  | zero =>
    intro listed a w hu h hpost
    have hr : Region.ready md ops listed = [] := by
      apply List.eq_nil_iff_forall_not_mem.2
      intro i hi
      obtain ⟨h0, o, ho, _⟩ := mem_ready.1 hi
      have hlt : i < ops.size := (Array.getElem?_eq_some_iff.1 ho).1
      have : unlisted listed ops.size = 0 := by omega
      unfold unlisted at this
      rw [List.countP_eq_zero] at this
      have h1 := this i (List.mem_range.2 hlt)
      have hl : i < listed.size := by rw [h.size]; exact hlt
      simp [hl] at h0 h1
      rw [h0] at h1
      cases h1
    exact ⟨hr, fin listed a w hr h hpost⟩
  | succ fuel ih =>
    intro listed a w hu h hpost
    refine ⟨fun hr => fin listed a w hr h hpost, fun i hi => ?_⟩
    obtain ⟨h0, o, ho, hall⟩ := mem_ready.1 hi
    have hlt : i < ops.size := (Array.getElem?_eq_some_iff.1 ho).1
    have hl : i < listed.size := by rw [h.size]; exact hlt
    have hun : listed.getD i false = false := by simpa [hl] using h0
    have hcount := unlisted_set h.size hlt hun
    have hold : ∀ d, later md ops i d = true → a.eval (.tmp d) = a0.eval (.tmp d) := fun d hd => h.keep d fun j hj hjd => by
      have hltj : j < ops.size := by
        unfold dstAt at hjd
        cases hoj : ops[j]? with
        | none => simp [hoj] at hjd
        | some o => exact (Array.getElem?_eq_some_iff.1 hoj).1
      have h1 := (List.all_eq_true.1 hd) j (List.mem_range.2 hltj)
      simp only [Bool.or_eq_true, beq_iff_eq, bne_iff_ne] at h1
      rcases h1 with (h1 | h1) | h1
      · subst h1; rw [hun] at hj; cases hj
      · exact h1 hjd
      · have := h.closed j i hj h1
        rw [hun] at this; cases this
    have hnew : ∀ j d, preds md ops i j = true → dstAt ops j = some d → factAt Φ j (a.eval (.tmp d)) w := fun j d hp hd => by
      refine h.done j d ?_ hd
      unfold preds at hp
      simp only [ho] at hp
      obtain ⟨e, he, hb⟩ := Array.any_eq_true'.1 hp
      simp only [Bool.and_eq_true, beq_iff_eq] at hb
      rw [← hb.2]
      exact hall e he hb.1
    refine wpOp_step ho fun K' hK' => ?_
    by_cases him : i = m
    · subst him
      rw [hom] at ho
      obtain rfl := Option.some.inj ho
      obtain ⟨hw, w', hrun, hJ, hE, hps⟩ := hst.2 a w ⟨h.ev, hold, hnew⟩
      rw [if_pos hw]
      refine wp_of_skip hrun ?_
      have hput : a.put om.dst undef = a := by rw [hst.1]; rfl
      rw [hput]
      refine hK' _ _ ?_
      exact ih _ _ _ (by omega) (h.store hmn hom hst.1 hi hun hJ hE) fun _ => hps
    · refine hops i o ho him a w h.ev h.defers hold hnew K' (fun v w' hE hv => hK' _ _ (ih _ _ _ (by omega) (h.step ht hm ho hi hE hv) fun hlm => ?_))
      rw [getD_set_ne false him] at hlm
      have hp := hpost hlm
      have hjl := h.closed m jm hlm hjm
      have hij : i ≠ jm := by rintro rfl; rw [hun] at hjl; cases hjl
      have hne : o.dst ≠ some dm := by
        have := (tidy_dst ht hjd).2 i hij
        simpa [dstAt, ho] using this
      rw [eval_put_other hne]
      exact hΨ _ _ _ hE hp

/-- The region, and behind it the frame written out over its slots s. -/
theorem wp_region_slotsN {id : Nat} (hmix : P.follows .mixedOrders = true) (J : World → World → Prop) (m dm jm : Nat) (Ψ : Value → World → Prop) (Φ : List (Value → World → Prop)) (n : Nat) (hn : a0.tmps.size = n) (ht : tidy .any ops n = true) (hm : AllMono Φ) (hmn : AllMonoN .any ops J m 0 Φ) (hΨ : Mono Ψ)
    (om : Oper) (hom : ops[m]? = some om) (hjm : preds .any ops m jm = true) (hjd : dstAt ops jm = some dm)
    (hops : ∀ i o, ops[i]? = some o → 0 + i ≠ m → OpOk P .any ops Q Φ a0 w0 (0 + i) o) (hst : StoreOk P .any ops Q Φ a0 w0 J m dm Ψ om)
    (hQ : ∀ (s : Nat → Value) w, Ev w0 w → (∀ d, nobody ops d = true → s d = a0.eval (.tmp d)) →
      (∀ i d, dstAt ops i = some d → factAt Φ i (s d) w) → Ψ (s dm) w → Q .normal ⟨((List.range n).map s).toArray, a0.defers⟩ w) :
    (Code.region id ops true).wp P Q a0 w0 := by
  subst hn
  refine wp_region_any hmix (wpAny_midN ht hm hmn hΨ hom hjm hjd (fun i o ho hi => by have := hops i o ho (by omega); rwa [Nat.zero_add] at this) hst ?_ ops.size _ _ _ ?_ ⟨by simp, ?_, rfl, rfl, ?_, fun _ _ => rfl, ?_⟩ ?_)
  · intro a w hE hd hs hold hnew hp
    rw [frame_eq hs, hd]
    exact hQ (fun d => a.eval (.tmp d)) w hE hold hnew hp
  · unfold unlisted
    exact Nat.le_trans List.countP_le_length (by simp)
  · exact ⟨rfl, rfl, rfl, Nat.le_refl _, fun _ _ => rfl⟩
  · intro i j hi
    exfalso
    by_cases hlt : i < ops.size <;> simp [hlt] at hi
  · intro i d hi
    exfalso
    by_cases hlt : i < ops.size <;> simp [hlt] at hi
  · intro hi
    exfalso
    by_cases hlt : m < ops.size <;> simp [hlt] at hi
theorem opn_cons {R : Nat → Oper → Prop} {m : Nat} {o0 : Oper} {l : List Oper} (k : Nat) (h0 : R k o0) (h : ∀ i o, l.toArray[i]? = some o → k + 1 + i ≠ m → R (k + 1 + i) o) : ∀ i o, (o0 :: l).toArray[i]? = some o → k + i ≠ m → R (k + i) o := by
  intro i o hi hlt
  cases i with
  | zero => simp at hi; subst hi; exact h0
  | succ i =>
    have := h i o (by simpa using hi) (by omega)
    rwa [show k + 1 + i = k + (i + 1) by omega] at this
theorem opn_store {R : Nat → Oper → Prop} {o0 : Oper} {l : List Oper} (k : Nat) (h : ∀ i o, l.toArray[i]? = some o → k + 1 + i ≠ k → R (k + 1 + i) o) : ∀ i o, (o0 :: l).toArray[i]? = some o → k + i ≠ k → R (k + i) o := by
  intro i o hi hlt
  cases i with
  | zero => exact absurd rfl hlt
  | succ i =>
    have := h i o (by simpa using hi) (by omega)
    rwa [show k + 1 + i = k + (i + 1) by omega] at this
theorem opn_nil {R : Nat → Oper → Prop} {m : Nat} (k : Nat) : ∀ i o, (([] : List Oper).toArray)[i]? = some o → k + i ≠ m → R (k + i) o := by
  intro i o h
  simp at h
end
end Go.Proofs.Ytgiofdmedhhobaa
