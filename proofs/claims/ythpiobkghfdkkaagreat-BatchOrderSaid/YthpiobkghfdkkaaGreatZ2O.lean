/-
  Texts that belong together: A region that draws its order, taken once for all orders: of each operation it is said what its value is good for (a fact that stays true while the world only grows); each operation is run once, knowing only what its own forerunners gave. Nothing of the program is imported here. A region that draws its order and ends in one operation that writes (a store): all others are taken once for all orders, the last one behind them all. A region that draws its order and ends in two operations in a forced order (a store, an assignment): all others are taken once for all orders. A region that draws its order, ends in one operation that writes (a store), and has one operation p that may turn memory which is new in the region (an append onto what an append gave): what is said of an operation whose users are all p or ahead of p need not outlive p. A region that draws its order, one of whose operations (m) stores into memory that the region itself has made: all orders once. What is said of the others stays true while the world grows, and through that store (unless they stand behind it); behind the region one knows what the store left of the box whose pointer lies in slot dm. A region that draws its order, some of whose operations (ms: calls and stores, each behind the one ahead of it) turn memory: all orders once. What is said of the operations' values stays true while the world grows and through those turns (J); St j is what one knows of the memory that is turned once j of them are done; I holds all along. The rule of RegionC, where what is said of some operations (D) need not outlive the first of those that turn memory (pD), and what is said of others (B) is said only behind it: an append onto what the region itself made. What is known of several operations' values together (of those in sp, all ahead of pD) is G, of those that are listed; it ends at pD. The rule of RegionC, where the last of the operations that turn memory (ml) stores into a box that the region itself made (its pointer in slot dm, given by operation jm): behind the region one knows what the box holds. A drawn region some of whose operations turn memory, in a chain: what an operation of the chain gives need outlive only the turns behind it. As XRegionLast, where some operations come ahead of the last one only through others.
-/
import Derived.Orders
import Derived.Tactics
import Derived.Below
import Derived.KernelRfl
import Derived.RegionTactic
import Derived.Deep.Draws
namespace Go.Proofs.YthpiobkghfdkkaaGreat
open Go.RowKit
set_option linter.unusedVariables false

/-- The world has only grown: every block that was there is as it was. -/
def Ev (w w' : World) : Prop := Below w.heap.size w w'
theorem Ev.refl (w : World) : Ev w w := Below.refl _ _
theorem Ev.trans {a b c : World} (h : Ev a b) (k : Ev b c) : Ev a c := Below.trans h (Below.mono k h.size)

theorem Ev.alloc (w : World) (o : Obj) : Ev w (w.alloc o) := Below.alloc (Below.refl _ _) (Nat.le_refl _) o
theorem Ev.drew (w : World) : Ev w w.drew := ⟨rfl, rfl, rfl, Nat.le_refl _, fun _ _ => rfl⟩
theorem Ev.drewN (w : World) (n : Nat) : Ev w (w.drewN n) := ⟨rfl, rfl, rfl, Nat.le_refl _, fun _ _ => rfl⟩

/-- What is said of an operation's value. -/
def Mono (φ : Value → World → Prop) : Prop := ∀ v w w', Ev w w' → φ v w → φ v w'
def AllMono : List (Value → World → Prop) → Prop
  | [] => True
  | φ :: l => Mono φ ∧ AllMono l
def factAt (Φ : List (Value → World → Prop)) (i : Nat) : Value → World → Prop := Φ.getD i (fun _ _ => True)
theorem factAt_mono : ∀ (Φ : List (Value → World → Prop)), AllMono Φ → ∀ i, Mono (factAt Φ i)
  | [], _, i => fun _ _ _ _ _ => trivial
  | φ :: l, h, 0 => h.1
  | φ :: l, h, i + 1 => factAt_mono l h.2 i
theorem mono_eq (x : Value) : Mono (fun v _ => v = x) := fun _ _ _ _ h => h
theorem mono_true : Mono (fun _ _ => True) := fun _ _ _ _ h => h

section
variable (md : Region.Mode) (ops : Array Oper)

def dstAt (i : Nat) : Option Tmp := (ops[i]?).bind (·.dst)
def preds (i j : Nat) : Bool := match ops[i]? with | some o => o.after.any (fun e => Region.binds md e && e.on == j) | none => false
/-- Whoever writes slot d comes behind operation i, or is i. -/
def later (i d : Nat) : Bool := (List.range ops.size).all fun j => j == i || dstAt ops j != some d || preds md ops j i
/-- Nobody writes slot d. -/
def nobody (d : Nat) : Bool := (List.range ops.size).all fun j => dstAt ops j != some d
/-- Forerunners stand ahead in the text; no two operations write one slot; every slot that is written lies in the frame. -/
def tidy (n : Nat) : Bool := (List.range ops.size).all fun i =>
  (match ops[i]? with | some o => o.after.all (fun e => !Region.binds md e || decide (e.on < i)) | none => false) &&
  (match dstAt ops i with | some d => decide (d < n) && (List.range ops.size).all (fun j => j == i || dstAt ops j != some d) | none => true)

variable {md ops}
theorem tidy_before {n : Nat} (h : tidy md ops n = true) {i j : Nat} (hp : preds md ops i j = true) : j < i := by
  unfold preds at hp
  cases ho : ops[i]? with
  | none => simp [ho] at hp
  | some o =>
    simp only [ho] at hp
    obtain ⟨e, he, hb⟩ := Array.any_eq_true'.1 hp
    have hlt : i < ops.size := (Array.getElem?_eq_some_iff.1 ho).1
    have h1 := (List.all_eq_true.1 h) i (List.mem_range.2 hlt)
    rw [Bool.and_eq_true] at h1
    have h2 := h1.1
    simp only [ho] at h2
    have h3 := (Array.all_eq_true_iff_forall_mem.1 h2) e he
    simp only [Bool.and_eq_true, beq_iff_eq] at hb
    simp [hb.1] at h3
    omega
theorem tidy_dst {n : Nat} (h : tidy md ops n = true) {i : Nat} {d : Tmp} (hd : dstAt ops i = some d) : d < n ∧ ∀ j, j ≠ i → dstAt ops j ≠ some d := by
  have hlt : i < ops.size := by
    unfold dstAt at hd
    cases ho : ops[i]? with
    | none => simp [ho] at hd
    | some o => exact (Array.getElem?_eq_some_iff.1 ho).1
  have h1 := (List.all_eq_true.1 h) i (List.mem_range.2 hlt)
  rw [Bool.and_eq_true] at h1
  have h2 := h1.2
  simp only [hd, Bool.and_eq_true, decide_eq_true_eq, List.all_eq_true, List.mem_range, Bool.or_eq_true, beq_iff_eq, bne_iff_ne] at h2
  refine ⟨h2.1, fun j hj hjd => ?_⟩
  have hltj : j < ops.size := by
    unfold dstAt at hjd
    cases ho : ops[j]? with
    | none => simp [ho] at hjd
    | some o => exact (Array.getElem?_eq_some_iff.1 ho).1
  rcases h2.2 j hltj with h3 | h3
  · exact hj h3
  · exact h3 hjd
end

section
variable {P : Program} {md : Region.Mode} {ops : Array Oper} {Q : Exit → Act → World → Prop} {Φ : List (Value → World → Prop)} {a0 : Act} {w0 : World}

/-- Operation i, run knowing what its forerunners gave. -/
def OpOk (P : Program) (md : Region.Mode) (ops : Array Oper) (Q : Exit → Act → World → Prop) (Φ : List (Value → World → Prop)) (a0 : Act) (w0 : World) (i : Nat) (o : Oper) : Prop :=
  ∀ (a : Act) (w : World), Ev w0 w → a.defers = a0.defers →
    (∀ d, later md ops i d = true → a.eval (.tmp d) = a0.eval (.tmp d)) →
    (∀ j d, preds md ops i j = true → dstAt ops j = some d → factAt Φ j (a.eval (.tmp d)) w) →
    ∀ K : Act → World → Prop, (∀ v w', Ev w w' → factAt Φ i v w' → K (a.put o.dst v) w') →
    if Region.wanted o (yielded ops a.tmps) = true then Oper.wp P o a w K Q else K (a.put o.dst undef) w

/-- The state in the midst of the region. -/
structure Mid (md : Region.Mode) (ops : Array Oper) (Φ : List (Value → World → Prop)) (a0 : Act) (w0 : World) (listed : Array Bool) (a : Act) (w : World) : Prop where
  size : listed.size = ops.size
  ev : Ev w0 w
  defers : a.defers = a0.defers
  slots : a.tmps.size = a0.tmps.size
  closed : ∀ i j, listed.getD i false = true → preds md ops i j = true → listed.getD j false = true
  keep : ∀ d, (∀ i, listed.getD i false = true → dstAt ops i ≠ some d) → a.eval (.tmp d) = a0.eval (.tmp d)
  done : ∀ i d, listed.getD i false = true → dstAt ops i = some d → factAt Φ i (a.eval (.tmp d)) w

def unlisted (listed : Array Bool) (n : Nat) : Nat := (List.range n).countP fun i => !listed.getD i false

theorem unlisted_set {listed : Array Bool} {n i : Nat} (hs : listed.size = n) (hi : i < n) (hu : listed.getD i false = false) : unlisted (listed.setIfInBounds i true) n < unlisted listed n := by
  unfold unlisted
  have key : ∀ l : List Nat, i ∈ l → (∀ j ∈ l, j < n) → l.countP (fun j => !(listed.setIfInBounds i true).getD j false) < l.countP (fun j => !listed.getD j false) := by
    have mono : ∀ l : List Nat, l.countP (fun j => !(listed.setIfInBounds i true).getD j false) ≤ l.countP (fun j => !listed.getD j false) := by
      intro l
      apply List.countP_mono_left
      intro j _ hj
      by_cases hij : i = j
      · subst hij; simp [hs, hi] at hj
      · rw [getD_set_ne false hij] at hj; exact hj
    intro l
    induction l with
    | nil => intro h _; cases h
    | cons x l ih =>
      intro hm hl
      by_cases hx : x = i
      · subst hx
        have h1 : (!(listed.setIfInBounds x true).getD x false) = false := by simp [hs, hi]
        have h2 : (!listed.getD x false) = true := by rw [hu]; rfl
        rw [List.countP_cons_of_neg (by simpa using h1), List.countP_cons_of_pos (by simpa using h2)]
        have := mono l
        omega
      · have hil : i ∈ l := by
          rcases List.mem_cons.1 hm with h | h
          · exact absurd h.symm hx
          · exact h
        have h3 := ih hil (fun j hj => hl j (List.mem_cons_of_mem _ hj))
        have h4 : (!(listed.setIfInBounds i true).getD x false) = (!listed.getD x false) := by rw [getD_set_ne false (Ne.symm hx)]
        simp only [List.countP_cons]
        rw [h4]
        omega
  exact key _ (List.mem_range.2 hi) (fun j hj => List.mem_range.1 hj)

theorem all_listed {n : Nat} (ht : tidy md ops n = true) {listed : Array Bool} (hs : listed.size = ops.size) (hr : Region.ready md ops listed = []) : ∀ i, i < ops.size → listed.getD i false = true := by
  intro i
  induction i using Nat.strongRecOn with
  | ind i ih =>
    intro hi
    by_cases hl : listed.getD i false = true
    · exact hl
    · have hmem : i ∈ Region.ready md ops listed := by
        rw [mem_ready]
        have hlt : i < listed.size := by omega
        refine ⟨by simpa [hlt] using hl, ops[i], Array.getElem?_eq_getElem hi, fun e he hb => ?_⟩
        have hp : preds md ops i e.on = true := by
          unfold preds
          rw [Array.getElem?_eq_getElem hi]
          exact Array.any_eq_true'.2 ⟨e, he, by simp [hb]⟩
        have hb2 := tidy_before ht hp
        exact ih e.on hb2 (by omega)
      rw [hr] at hmem
      cases hmem

theorem eval_put_same {a : Act} {d : Tmp} {v : Value} (h : d < a.tmps.size) : (a.put (some d) v).eval (.tmp d) = v := by
  simp [Act.put, Act.eval, h]
theorem eval_put_other {a : Act} {dst : Option Tmp} {d : Tmp} {v : Value} (h : dst ≠ some d) : (a.put dst v).eval (.tmp d) = a.eval (.tmp d) := by
  apply Act.eval_put
  intro d' hd' he
  injection he with he
  subst he
  exact h hd'
theorem defers_put (a : Act) (dst : Option Tmp) (v : Value) : (a.put dst v).defers = a.defers := by cases dst <;> rfl
theorem size_put (a : Act) (dst : Option Tmp) (v : Value) : (a.put dst v).tmps.size = a.tmps.size := by cases dst <;> simp [Act.put]

theorem Mid.step (ht : tidy md ops a0.tmps.size = true) (hm : AllMono Φ) {listed : Array Bool} {a : Act} {w w' : World} (h : Mid md ops Φ a0 w0 listed a w) {i : Nat} {o : Oper} (ho : ops[i]? = some o)
    (hr : i ∈ Region.ready md ops listed) {v : Value} (hE : Ev w w') (hv : factAt Φ i v w') : Mid md ops Φ a0 w0 (listed.setIfInBounds i true) (a.put o.dst v) w' := by
  have hi : i < ops.size := (Array.getElem?_eq_some_iff.1 ho).1
  have hdi : dstAt ops i = o.dst := by simp [dstAt, ho]
  have hset : ∀ j, (listed.setIfInBounds i true).getD j false = true → j = i ∨ listed.getD j false = true := by
    intro j hj
    by_cases hij : i = j
    · exact .inl hij.symm
    · rw [getD_set_ne false hij] at hj; exact .inr hj
  refine ⟨by simpa using h.size, h.ev.trans hE, by rw [defers_put]; exact h.defers, by rw [size_put]; exact h.slots, ?_, ?_, ?_⟩
  · intro j k hj hp
    apply getD_set_true
    rcases hset j hj with rfl | hj'
    · obtain ⟨_, o', ho', hall⟩ := mem_ready.1 hr
      rw [ho] at ho'
      obtain rfl := Option.some.inj ho'
      unfold preds at hp
      simp only [ho] at hp
      obtain ⟨e, he, hb⟩ := Array.any_eq_true'.1 hp
      simp only [Bool.and_eq_true, beq_iff_eq] at hb
      rw [← hb.2]
      exact hall e he hb.1
    · exact h.closed j k hj' hp
  · intro d hd
    have hne : o.dst ≠ some d := by
      rw [← hdi]
      exact hd i (by simp [h.size, hi])
    rw [eval_put_other hne]
    exact h.keep d fun j hj => hd j (getD_set_true hj)
  · intro j d hj hd
    rcases hset j hj with rfl | hj'
    · rw [hdi] at hd
      rw [hd]
      have hsz := (tidy_dst ht (by rw [hdi]; exact hd)).1
      rw [eval_put_same (by rw [h.slots]; exact hsz)]
      exact hv
    · by_cases hij : j = i
      · subst hij
        rw [hdi] at hd
        rw [hd]
        have hsz := (tidy_dst ht (by rw [hdi]; exact hd)).1
        rw [eval_put_same (by rw [h.slots]; exact hsz)]
        exact hv
      · have hne : o.dst ≠ some d := by
          rw [← hdi]
          exact (tidy_dst ht hd).2 i (fun e => hij e.symm)
        rw [eval_put_other hne]
        exact factAt_mono Φ hm j _ _ _ hE (h.done j d hj' hd)

theorem wpAny_mid (ht : tidy md ops a0.tmps.size = true) (hm : AllMono Φ)
    (hops : ∀ i o, ops[i]? = some o → OpOk P md ops Q Φ a0 w0 i o)
    (hQ : ∀ a w, Ev w0 w → a.defers = a0.defers → a.tmps.size = a0.tmps.size → (∀ d, nobody ops d = true → a.eval (.tmp d) = a0.eval (.tmp d)) →
      (∀ i d, dstAt ops i = some d → factAt Φ i (a.eval (.tmp d)) w) → Q .normal a w) :
    ∀ (fuel : Nat) (listed : Array Bool) (a : Act) (w : World), unlisted listed ops.size ≤ fuel → Mid md ops Φ a0 w0 listed a w → wpAny P md ops Q fuel listed a w := by
  have fin : ∀ (listed : Array Bool) (a : Act) (w : World), Region.ready md ops listed = [] → Mid md ops Φ a0 w0 listed a w → Q .normal a w := by
    intro listed a w hr h
    have hall := all_listed ht h.size hr
    refine hQ a w h.ev h.defers h.slots (fun d hd => h.keep d fun i hi hid => ?_) (fun i d hd => h.done i d (hall i ?_) hd)
    · have hlt : i < ops.size := by
        unfold dstAt at hid
        cases ho : ops[i]? with
        | none => simp [ho] at hid
        | some o => exact (Array.getElem?_eq_some_iff.1 ho).1
      have := (List.all_eq_true.1 hd) i (List.mem_range.2 hlt)
      simp [hid] at this
    · unfold dstAt at hd
      cases ho : ops[i]? with
      | none => simp [ho] at hd
      | some o => exact (Array.getElem?_eq_some_iff.1 ho).1
  intro fuel
  induction fuel with
  | zero =>
    intro listed a w hu h
    have hr : Region.ready md ops listed = [] := by
      apply List.eq_nil_iff_forall_not_mem.2
      intro i hi
      obtain ⟨h0, o, ho, _⟩ := mem_ready.1 hi
      have hlt : i < ops.size := (Array.getElem?_eq_some_iff.1 ho).1
      have : unlisted listed ops.size = 0 := by omega
      unfold unlisted at this
      rw [List.countP_eq_zero] at this
      have h1 := this i (List.mem_range.2 hlt)
      have hl : i < listed.size := by rw [h.size]; exact hlt
      simp [hl] at h0 h1
      rw [h0] at h1
      cases h1
    exact ⟨hr, fin listed a w hr h⟩
  | succ fuel ih =>
    intro listed a w hu h
    refine ⟨fun hr => fin listed a w hr h, fun i hi => ?_⟩
    obtain ⟨h0, o, ho, hall⟩ := mem_ready.1 hi
    have hlt : i < ops.size := (Array.getElem?_eq_some_iff.1 ho).1
    have hl : i < listed.size := by rw [h.size]; exact hlt
    have hun : listed.getD i false = false := by simpa [hl] using h0
    have hcount := unlisted_set h.size hlt hun
    refine wpOp_step ho fun K' hK' => ?_
    refine hops i o ho a w h.ev h.defers (fun d hd => h.keep d fun j hj hjd => ?_) (fun j d hp hd => ?_) K' (fun v w' hE hv => hK' _ _ (ih _ _ _ (by omega) (h.step ht hm ho hi hE hv)))
    · have hltj : j < ops.size := by
        unfold dstAt at hjd
        cases hoj : ops[j]? with
        | none => simp [hoj] at hjd
        | some o => exact (Array.getElem?_eq_some_iff.1 hoj).1
      have h1 := (List.all_eq_true.1 hd) j (List.mem_range.2 hltj)
      simp only [Bool.or_eq_true, beq_iff_eq, bne_iff_ne] at h1
      rcases h1 with (h1 | h1) | h1
      · subst h1; rw [hun] at hj; cases hj
      · exact h1 hjd
      · have := h.closed j i hj h1
        rw [hun] at this; cases this
    · refine h.done j d ?_ hd
      unfold preds at hp
      simp only [ho] at hp
      obtain ⟨e, he, hb⟩ := Array.any_eq_true'.1 hp
      simp only [Bool.and_eq_true, beq_iff_eq] at hb
      rw [← hb.2]
      exact hall e he hb.1

theorem wp_region_mid {id : Nat} (hmix : P.follows .mixedOrders = true) (Φ : List (Value → World → Prop)) (ht : tidy .any ops a0.tmps.size = true) (hm : AllMono Φ)
    (hops : ∀ i o, ops[i]? = some o → OpOk P .any ops Q Φ a0 w0 i o)
    (hQ : ∀ a w, Ev w0 w → a.defers = a0.defers → a.tmps.size = a0.tmps.size → (∀ d, nobody ops d = true → a.eval (.tmp d) = a0.eval (.tmp d)) →
      (∀ i d, dstAt ops i = some d → factAt Φ i (a.eval (.tmp d)) w) → Q .normal a w) :
    (Code.region id ops true).wp P Q a0 w0 := by
  refine wp_region_any hmix (wpAny_mid ht hm hops hQ ops.size _ _ _ ?_ ⟨by simp, ?_, rfl, rfl, ?_, fun _ _ => rfl, ?_⟩)
  · unfold unlisted
    exact Nat.le_trans List.countP_le_length (by simp)
  · exact ⟨rfl, rfl, rfl, Nat.le_refl _, fun _ _ => rfl⟩
  · intro i j hi
    exfalso
    by_cases hlt : i < ops.size <;> simp [hlt] at hi
  · intro i d hi
    exfalso
    by_cases hlt : i < ops.size <;> simp [hlt] at hi

/-- The operations one by one. -/
theorem ops_nil {R : Nat → Oper → Prop} (k : Nat) : ∀ i o, (([] : List Oper).toArray)[i]? = some o → R (k + i) o := by
  intro i o h
  simp at h
theorem ops_cons {R : Nat → Oper → Prop} {o0 : Oper} {l : List Oper} (k : Nat) (h0 : R k o0) (h : ∀ i o, l.toArray[i]? = some o → R (k + 1 + i) o) : ∀ i o, (o0 :: l).toArray[i]? = some o → R (k + i) o := by
  intro i o hi
  cases i with
  | zero => simp at hi; subst hi; exact h0
  | succ i =>
    have := h i o (by simpa using hi)
    rwa [show k + 1 + i = k + (i + 1) by omega] at this
theorem ops_start {R : Nat → Oper → Prop} {ops : Array Oper} (h : ∀ i o, ops[i]? = some o → R (0 + i) o) : ∀ i o, ops[i]? = some o → R i o := by
  intro i o hi
  have := h i o hi
  rwa [Nat.zero_add] at this

theorem yielded_of {a : Act} {j d : Nat} {b : Bool} (hd : dstAt ops j = some d) (h : a.eval (.tmp d) = .bool b) : yielded ops a.tmps j = some b := by
  unfold dstAt at hd
  unfold yielded
  rw [hd, Option.bind_some]
  simp only [Act.eval] at h
  by_cases hlt : d < a.tmps.size
  · simp [hlt] at h
    simp [hlt, h]
  · simp [hlt, undef] at h

/-- What operation i may know when it runs. -/
structure Ctx (md : Region.Mode) (ops : Array Oper) (Φ : List (Value → World → Prop)) (a0 : Act) (w0 : World) (i : Nat) (a : Act) (w : World) : Prop where
  ev : Ev w0 w
  old : ∀ d, later md ops i d = true → a.eval (.tmp d) = a0.eval (.tmp d)
  new : ∀ j d, preds md ops i j = true → dstAt ops j = some d → factAt Φ j (a.eval (.tmp d)) w
theorem Ctx.was {i : Nat} {a : Act} {w : World} (c : Ctx md ops Φ a0 w0 i a w) (d : Nat) {v : Value} (h : later md ops i d = true) (hv : a0.eval (.tmp d) = v) : a.eval (.tmp d) = v := (c.old d h).trans hv
theorem Ctx.got {i : Nat} {a : Act} {w : World} (c : Ctx md ops Φ a0 w0 i a w) (j d : Nat) {φ : Value → World → Prop} (h : preds md ops i j = true) (hd : dstAt ops j = some d) (hφ : factAt Φ j = φ) : φ (a.eval (.tmp d)) w := hφ ▸ c.new j d h hd

/-- An operation that gives a value in the world as it is. -/
theorem op_value {i : Nat} {o : Oper} (h : ∀ a w, Ctx md ops Φ a0 w0 i a w → Region.wanted o (yielded ops a.tmps) = true ∧ ∃ v, (execOp a.eval o).run P w = .ok (.value v) w ∧ factAt Φ i v w) : OpOk P md ops Q Φ a0 w0 i o := by
  intro a w hE _ hold hnew K hK
  obtain ⟨hw, v, hr, hv⟩ := h a w ⟨hE, hold, hnew⟩
  rw [if_pos hw]
  unfold Oper.wp
  rw [hr]
  exact hK v w (Ev.refl w) hv
/-- One that makes memory. -/
theorem op_makes {i : Nat} {o : Oper} (h : ∀ a w, Ctx md ops Φ a0 w0 i a w → Region.wanted o (yielded ops a.tmps) = true ∧ ∃ v w', (execOp a.eval o).run P w = .ok (.value v) w' ∧ Ev w w' ∧ factAt Φ i v w') : OpOk P md ops Q Φ a0 w0 i o := by
  intro a w hE _ hold hnew K hK
  obtain ⟨hw, v, w', hr, hE', hv⟩ := h a w ⟨hE, hold, hnew⟩
  rw [if_pos hw]
  unfold Oper.wp
  rw [hr]
  exact hK v w' hE' hv
/-- A call of a Go function, by its contract. -/
theorem op_call {i : Nat} {o : Oper} (h : ∀ a w, Ctx md ops Φ a0 w0 i a w → Region.wanted o (yielded ops a.tmps) = true ∧ ∃ f args, (execOp a.eval o).run P w = .ok (.enter f args) w ∧
    Calls P f args w fun e w' => ∃ v, e = .returned v ∧ Ev w w' ∧ factAt Φ i v w') : OpOk P md ops Q Φ a0 w0 i o := by
  intro a w hE _ hold hnew K hK
  obtain ⟨hw, f, args, hr, hc⟩ := h a w ⟨hE, hold, hnew⟩
  rw [if_pos hw]
  unfold Oper.wp
  rw [hr]
  refine hc.mono ?_
  rintro e w' ⟨v, rfl, hE', hv⟩
  exact hK v w' hE' hv
/-- One that its guard passes over. -/
theorem op_skip {i : Nat} {o : Oper} (h : ∀ a w, Ctx md ops Φ a0 w0 i a w → Region.wanted o (yielded ops a.tmps) = false ∧ factAt Φ i undef w) : OpOk P md ops Q Φ a0 w0 i o := by
  intro a w hE _ hold hnew K hK
  obtain ⟨hw, hv⟩ := h a w ⟨hE, hold, hnew⟩
  rw [if_neg (by rw [hw]; exact Bool.false_ne_true)]
  exact hK undef w (Ev.refl w) hv
theorem run_move {ρ : Operand → Value} {o : Oper} (x : Operand) (h : o.op = .move x) (w : World) : (execOp ρ o).run P w = .ok (.value (ρ x)) w := by
  unfold execOp; rw [h]; rfl
theorem run_assign {ρ : Operand → Value} {o : Oper} (x : Operand) (h : o.op = .assign x) (w : World) : (execOp ρ o).run P w = .ok (.value (ρ x)) w := by
  unfold execOp; rw [h]; rfl
theorem run_pick_true {ρ : Operand → Value} {o : Oper} {c x y : Operand} (ho : o.op = .pick c x y) (h : ρ c = .bool true) (w : World) : (execOp ρ o).run P w = .ok (.value (ρ x)) w := by
  unfold execOp; rw [ho]; simp [h, asBool]
theorem run_pick_false {ρ : Operand → Value} {o : Oper} {c x y : Operand} (ho : o.op = .pick c x y) (h : ρ c = .bool false) (w : World) : (execOp ρ o).run P w = .ok (.value (ρ y)) w := by
  unfold execOp; rw [ho]; simp [h, asBool]
theorem evc (a : Act) (v : Value) : a.eval (.const v) = v := rfl
/-- Function f has a body of its own in this program. -/
def bodied (P : Program) (f : FuncId) : Bool := match P.funcs[f]? with | some fn => !(fn.name == "runtime.NumGoroutine") && !fn.body.isNone | none => false
theorem run_enter {f : FuncId} (h : bodied P f = true) (args : Array Value) (w : World) : (callFunc f args).run P w = .ok (.enter f args) w := by
  unfold bodied at h
  cases hf : P.funcs[f]? with
  | none => simp [hf] at h
  | some fn =>
    simp only [hf, Bool.and_eq_true, Bool.not_eq_true'] at h
    have h1 : ¬ fn.name = "runtime.NumGoroutine" := by simpa using h.1
    have h2 : ¬ fn.body = none := by
      intro e
      simp [e] at h
    simp [callFunc, hf, h1, h2]
theorem run_call {a : Act} {o : Oper} (f : FuncId) (xs : Array Operand) (ts : Array TypeId) (ho : o.op = .call { callee := .value (.func f), args := xs, argTypes := ts }) (h : bodied P f = true) (w : World) :
    (execOp a.eval o).run P w = .ok (.enter f (xs.map a.eval)) w := by
  unfold execOp
  rw [ho]
  simp [resolve, Act.eval, Deferred.ofValue, invoke]
  exact run_enter h _ w
theorem wanted_plain {o : Oper} {y : Nat → Option Bool} (h : o.guard = none) : Region.wanted o y = true := by simp [Region.wanted, h]
theorem wanted_yes {o : Oper} {a : Act} {g d : Nat} {b : Bool} (h : o.guard = some (g, b)) (hd : dstAt ops g = some d) (hv : a.eval (.tmp d) = .bool b) : Region.wanted o (yielded ops a.tmps) = true := by
  simp [Region.wanted, h, yielded_of hd hv]
theorem wanted_no {o : Oper} {a : Act} {g d : Nat} {b c : Bool} (h : o.guard = some (g, b)) (hd : dstAt ops g = some d) (hv : a.eval (.tmp d) = .bool c) (hne : c ≠ b) : Region.wanted o (yielded ops a.tmps) = false := by
  simp [Region.wanted, h, yielded_of hd hv, hne]

theorem frame_eq {a : Act} {n : Nat} (h : a.tmps.size = n) : a = ⟨((List.range n).map fun d => a.eval (.tmp d)).toArray, a.defers⟩ := by
  have e : a.tmps = ((List.range n).map fun d => a.eval (.tmp d)).toArray := by
    apply Array.ext
    · simp [h]
    · intro i h1 h2
      simp [Act.eval, h1]
  cases a
  simp only at e ⊢
  rw [← e]

/-- The region, and behind it the frame written out over its slots s. -/
theorem wp_region_slots {id : Nat} (hmix : P.follows .mixedOrders = true) (Φ : List (Value → World → Prop)) (n : Nat) (hn : a0.tmps.size = n) (ht : tidy .any ops n = true) (hm : AllMono Φ)
    (hops : ∀ i o, ops[i]? = some o → OpOk P .any ops Q Φ a0 w0 (0 + i) o)
    (hQ : ∀ (s : Nat → Value) w, Ev w0 w → (∀ d, nobody ops d = true → s d = a0.eval (.tmp d)) →
      (∀ i d, dstAt ops i = some d → factAt Φ i (s d) w) → Q .normal ⟨((List.range n).map s).toArray, a0.defers⟩ w) :
    (Code.region id ops true).wp P Q a0 w0 := by
  subst hn
  refine wp_region_mid hmix Φ ht hm (ops_start hops) ?_
  intro a w hE hd hs hold hnew
  rw [frame_eq hs, hd]
  exact hQ (fun d => a.eval (.tmp d)) w hE hold hnew
end
end Go.Proofs.YthpiobkghfdkkaaGreat

namespace Go.Proofs.YthpiobkghfdkkaaGreat
open Go.RowKit
set_option linter.unusedVariables false

section
variable {P : Program} {md : Region.Mode} {ops : Array Oper} {Q : Exit → Act → World → Prop} {Φ : List (Value → World → Prop)} {a0 : Act} {w0 : World}

theorem opsb_nil {R : Nat → Oper → Prop} {m : Nat} (k : Nat) (o0 : Oper) (hk : m ≤ k) : ∀ i o, ([o0].toArray)[i]? = some o → k + i < m → R (k + i) o := by
  intro i o _ h
  omega
theorem opsb_cons {R : Nat → Oper → Prop} {m : Nat} {o0 : Oper} {l : List Oper} (k : Nat) (h0 : R k o0) (h : ∀ i o, l.toArray[i]? = some o → k + 1 + i < m → R (k + 1 + i) o) : ∀ i o, (o0 :: l).toArray[i]? = some o → k + i < m → R (k + i) o := by
  intro i o hi hlt
  cases i with
  | zero => simp at hi; subst hi; exact h0
  | succ i =>
    have := h i o (by simpa using hi) (by omega)
    rwa [show k + 1 + i = k + (i + 1) by omega] at this
theorem opsb_start {R : Nat → Oper → Prop} {m : Nat} {ops : Array Oper} (h : ∀ i o, ops[i]? = some o → 0 + i < m → R (0 + i) o) : ∀ i o, ops[i]? = some o → i < m → R i o := by
  intro i o hi hlt
  have := h i o hi (by omega)
  rwa [Nat.zero_add] at this
theorem wp_of_skip {o : Oper} {a : Act} {w w' : World} {K : Act → World → Prop} (h : (execOp a.eval o).run P w = .ok .skip w') (hk : K (a.put o.dst undef) w') : Oper.wp P o a w K Q := by
  unfold Oper.wp
  rw [h]
  exact hk
end
end Go.Proofs.YthpiobkghfdkkaaGreat

namespace Go.Proofs.YthpiobkghfdkkaaGreat
open Go.RowKit
set_option linter.unusedVariables false

section
variable {P : Program} {md : Region.Mode} {ops : Array Oper} {Q : Exit → Act → World → Prop} {Φ : List (Value → World → Prop)} {a0 : Act} {w0 : World}

end
end Go.Proofs.YthpiobkghfdkkaaGreat

namespace Go.Proofs.YthpiobkghfdkkaaGreat
open Go.RowKit
set_option linter.unusedVariables false

section
variable {P : Program} {md : Region.Mode} {ops : Array Oper} {Q : Exit → Act → World → Prop} {Φ : List (Value → World → Prop)} {a0 : Act} {w0 : World} {D : List Nat} {p : Nat}

end
end Go.Proofs.YthpiobkghfdkkaaGreat

namespace Go.Proofs.YthpiobkghfdkkaaGreat
open Go.RowKit
set_option linter.unusedVariables false

section
variable {P : Program} {md : Region.Mode} {ops : Array Oper} {Q : Exit → Act → World → Prop} {Φ : List (Value → World → Prop)} {a0 : Act} {w0 : World} {J : World → World → Prop} {m dm : Nat} {Ψ : Value → World → Prop}

end
end Go.Proofs.YthpiobkghfdkkaaGreat

namespace Go.Proofs.YthpiobkghfdkkaaGreat
open Go.RowKit
set_option linter.unusedVariables false

section
variable {P : Program} {md : Region.Mode} {ops : Array Oper} {Q : Exit → Act → World → Prop} {Φ : List (Value → World → Prop)} {a0 : Act} {J : World → World → Prop} {I : World → Prop} {ms : List Nat} {St : Nat → World → Prop}

/-- Operation j stands, by any number of steps, ahead of i. -/
def reachC (md : Region.Mode) (ops : Array Oper) : Nat → Nat → Nat → Bool
  | 0, i, j => preds md ops i j
  | n + 1, i, j => preds md ops i j || (List.range ops.size).any fun x => preds md ops i x && reachC md ops n x j
/-- Each of ms stands behind the one ahead of it. -/
def chainC (md : Region.Mode) (ops : Array Oper) : List Nat → Bool
  | [] => true
  | [_] => true
  | a :: b :: l => reachC md ops 3 b a && decide (a < b) && chainC md ops (b :: l)
/-- How many of ms are listed. -/
def doneC (listed : Array Bool) (ms : List Nat) : Nat := ms.countP fun i => listed.getD i false
theorem reach_closed {listed : Array Bool} (hc : ∀ i j, listed.getD i false = true → preds md ops i j = true → listed.getD j false = true) : ∀ (n i j : Nat), reachC md ops n i j = true → listed.getD i false = true → listed.getD j false = true
  | 0, i, j, h, hl => hc i j hl h
  | n + 1, i, j, h, hl => by
    unfold reachC at h
    rw [Bool.or_eq_true] at h
    rcases h with h | h
    · exact hc i j hl h
    · obtain ⟨x, _, hx⟩ := List.any_eq_true.1 h
      rw [Bool.and_eq_true] at hx
      exact reach_closed hc n x j hx.2 (hc i x hl hx.1)
theorem chain_tail : ∀ {a : Nat} {l : List Nat}, chainC md ops (a :: l) = true → chainC md ops l = true
  | a, [], _ => rfl
  | a, b :: l, h => by
    unfold chainC at h
    rw [Bool.and_eq_true] at h
    exact h.2
/-- Of a chain, what is not listed at its head is not listed at all. -/
theorem chain_none {listed : Array Bool} (hc : ∀ i j, listed.getD i false = true → preds md ops i j = true → listed.getD j false = true) : ∀ (a : Nat) (l : List Nat), chainC md ops (a :: l) = true → listed.getD a false = false → doneC listed (a :: l) = 0
  | a, [], _, h => by unfold doneC; rw [List.countP_cons_of_neg (by rw [h]; exact Bool.false_ne_true)]; rfl
  | a, b :: l, hch, h => by
    have hch2 := hch
    unfold chainC at hch2
    rw [Bool.and_eq_true, Bool.and_eq_true] at hch2
    have hb : listed.getD b false = false := by
      cases hb : listed.getD b false
      · rfl
      · have := reach_closed hc 3 b a hch2.1.1 hb
        rw [h] at this; cases this
    have := chain_none hc b l hch2.2 hb
    unfold doneC at this ⊢
    rw [List.countP_cons_of_neg (by rw [h]; exact Bool.false_ne_true)]
    exact this
theorem chain_lt : ∀ (l : List Nat) (a : Nat), chainC md ops (a :: l) = true → ∀ x ∈ l, a < x
  | [], a, _, x, hx => by cases hx
  | b :: l, a, h, x, hx => by
    have h2 := h
    unfold chainC at h2
    rw [Bool.and_eq_true, Bool.and_eq_true] at h2
    have hab := of_decide_eq_true h2.1.2
    rcases List.mem_cons.1 hx with rfl | hx
    · exact hab
    · exact Nat.lt_trans hab (chain_lt l b h2.2 x hx)
/-- Number p of ms is not listed, and those ahead of it are: p are. -/
theorem chain_at {listed : Array Bool} (hc : ∀ i j, listed.getD i false = true → preds md ops i j = true → listed.getD j false = true) : ∀ (ms : List Nat) (p i : Nat), chainC md ops ms = true → ms[p]? = some i → listed.getD i false = false → (∀ j n, reachC md ops n i j = true → i ≠ j → listed.getD j false = true) → doneC listed ms = p
  | [], p, i, _, h, _, _ => by simp at h
  | [a], 0, i, hch, h, hl, _ => by
    simp at h
    subst h
    exact chain_none hc a [] hch hl
  | [a], p + 1, i, hch, h, hl, _ => by simp at h
  | a :: b :: l, 0, i, hch, h, hl, _ => by
    simp at h
    subst h
    exact chain_none hc a (b :: l) hch hl
  | a :: b :: l, p + 1, i, hch, h, hl, hd => by
    have hch2 := chain_tail hch
    have ih := chain_at hc (b :: l) p i hch2 (by simpa using h) hl hd
    have hal : listed.getD a false = true := by
      have hh := hch
      unfold chainC at hh
      rw [Bool.and_eq_true, Bool.and_eq_true] at hh
      cases p with
      | zero =>
        simp at h
        subst h
        exact hd a 3 hh.1.1 (by have := of_decide_eq_true hh.1.2; omega)
      | succ p =>
        have hbl : listed.getD b false = true := by
          cases hbl : listed.getD b false
          · have := chain_none hc b l hch2 hbl
            rw [this] at ih; cases ih
          · rfl
        exact reach_closed hc 3 b a hh.1.1 hbl
    unfold doneC at ih ⊢
    rw [List.countP_cons_of_pos (p := fun i => listed.getD i false) hal, ih]
theorem done_set {listed : Array Bool} {i : Nat} (hi : i < listed.size) : ∀ ms : List Nat, i ∉ ms → doneC (listed.setIfInBounds i true) ms = doneC listed ms
  | [], _ => rfl
  | a :: l, h => by
    have hne : i ≠ a := fun e => h (e ▸ List.mem_cons_self ..)
    have ih := done_set hi l fun hm => h (List.mem_cons_of_mem _ hm)
    unfold doneC at ih ⊢
    rw [List.countP_cons, List.countP_cons, ih, getD_set_ne false hne]
theorem done_set_in {listed : Array Bool} {i : Nat} (hi : i < listed.size) (hun : listed.getD i false = false) : ∀ ms : List Nat, ms.Pairwise (· < ·) → i ∈ ms → doneC (listed.setIfInBounds i true) ms = doneC listed ms + 1
  | [], _, h => by cases h
  | a :: l, hp, h => by
    rw [List.pairwise_cons] at hp
    rcases List.mem_cons.1 h with e | h
    · subst e
      have hnm : i ∉ l := fun hm => Nat.lt_irrefl _ (hp.1 i hm)
      have := done_set hi l hnm
      unfold doneC at this ⊢
      rw [List.countP_cons_of_pos (by simp [hi]), List.countP_cons_of_neg (by rw [hun]; exact Bool.false_ne_true), this]
    · have hne : i ≠ a := fun e => Nat.lt_irrefl _ (hp.1 a (e ▸ h))
      have ih := done_set_in hi hun l hp.2 h
      unfold doneC at ih ⊢
      rw [List.countP_cons, List.countP_cons, ih, getD_set_ne false hne]
      omega
theorem chain_pairwise : ∀ ms : List Nat, chainC md ops ms = true → ms.Pairwise (· < ·)
  | [], _ => List.Pairwise.nil
  | a :: l, h => List.pairwise_cons.2 ⟨chain_lt l a h, chain_pairwise l (chain_tail h)⟩
theorem opc_cons {R : Nat → Oper → Prop} {ms : List Nat} {o0 : Oper} {l : List Oper} (k : Nat) (h0 : R k o0) (h : ∀ i o, l.toArray[i]? = some o → k + 1 + i ∉ ms → R (k + 1 + i) o) : ∀ i o, (o0 :: l).toArray[i]? = some o → k + i ∉ ms → R (k + i) o := by
  intro i o hi hlt
  cases i with
  | zero => simp at hi; subst hi; exact h0
  | succ i =>
    have := h i o (by simpa using hi) (by rwa [show k + 1 + i = k + (i + 1) by omega])
    rwa [show k + 1 + i = k + (i + 1) by omega] at this
theorem opc_turn {R : Nat → Oper → Prop} {ms : List Nat} {o0 : Oper} {l : List Oper} (k : Nat) (hk : k ∈ ms) (h : ∀ i o, l.toArray[i]? = some o → k + 1 + i ∉ ms → R (k + 1 + i) o) : ∀ i o, (o0 :: l).toArray[i]? = some o → k + i ∉ ms → R (k + i) o := by
  intro i o hi hlt
  cases i with
  | zero => exact absurd hk hlt
  | succ i =>
    have := h i o (by simpa using hi) (by rwa [show k + 1 + i = k + (i + 1) by omega])
    rwa [show k + 1 + i = k + (i + 1) by omega] at this
theorem trn_nil {R : Nat → Nat → Oper → Prop} {ops : Array Oper} (k : Nat) : ∀ p i o, ([] : List Nat)[p]? = some i → ops[i]? = some o → R (k + p) i o := by
  intro p i o h
  simp at h
theorem trn_cons {R : Nat → Nat → Oper → Prop} {ops : Array Oper} {m : Nat} {ms : List Nat} {o0 : Oper} (k : Nat) (ho : ops[m]? = some o0) (h0 : R k m o0) (h : ∀ p i o, ms[p]? = some i → ops[i]? = some o → R (k + 1 + p) i o) : ∀ p i o, (m :: ms)[p]? = some i → ops[i]? = some o → R (k + p) i o := by
  intro p i o hp hi
  cases p with
  | zero =>
    simp at hp
    subst hp
    rw [ho] at hi
    obtain rfl := Option.some.inj hi
    exact h0
  | succ p =>
    have := h p i o (by simpa using hp) hi
    rwa [show k + 1 + p = k + (p + 1) by omega] at this
theorem opc_nil {R : Nat → Oper → Prop} {ms : List Nat} (k : Nat) : ∀ i o, (([] : List Oper).toArray)[i]? = some o → k + i ∉ ms → R (k + i) o := by
  intro i o h
  simp at h
end
end Go.Proofs.YthpiobkghfdkkaaGreat

namespace Go.Proofs.YthpiobkghfdkkaaGreat
open Go.RowKit
set_option linter.unusedVariables false

section
variable {P : Program} {md : Region.Mode} {ops : Array Oper} {Q : Exit → Act → World → Prop} {Φ : List (Value → World → Prop)} {a0 : Act} {J : Nat → World → World → Prop} {I : World → Prop} {ms D sp : List Nat} {B : List (List Nat)} {pD : Nat} {St : Nat → World → Prop} {G : (Nat → Bool) → Act → World → Prop}
/-- What is said of operation j is there when i runs. -/
def availG (md : Region.Mode) (ops : Array Oper) (D : List Nat) (pD i j : Nat) : Bool := !(D.contains j) || (i == pD || reachC md ops 3 pD i)
/-- Those of B stand behind the turn (or are it). -/
def chkB (md : Region.Mode) (ops : Array Oper) : List (List Nat) → List Nat → Bool
  | b :: bs, m :: ms => (b.all fun j => j == m || reachC md ops 3 j m) && chkB md ops bs ms
  | _, _ => true
theorem chkB_at {md : Region.Mode} {ops : Array Oper} : ∀ (bs : List (List Nat)) (ms : List Nat), chkB md ops bs ms = true → ∀ p i, ms[p]? = some i → ((bs.getD p []).all fun j => j == i || reachC md ops 3 j i) = true
  | [], _, _, p, i, _ => by simp
  | _ :: _, [], _, p, i, h => by simp at h
  | b :: bs, m :: ms, h, 0, i, hi => by
    unfold chkB at h
    rw [Bool.and_eq_true] at h
    simp at hi
    subst hi
    exact h.1
  | b :: bs, m :: ms, h, p + 1, i, hi => by
    unfold chkB at h
    rw [Bool.and_eq_true] at h
    have := chkB_at bs ms h.2 p i (by simpa using hi)
    simpa using this
def StableG (J : Nat → World → World → Prop) (D : List Nat) (B : List (List Nat)) : Nat → List (Value → World → Prop) → Prop
  | _, [] => True
  | k, φ :: l => (D.contains k = true ∨ ∀ p, (B.getD p []).contains k = true ∨ ∀ v w w', J p w w' → φ v w → φ v w') ∧ StableG J D B (k + 1) l
theorem factAt_G {p : Nat} : ∀ (Φ : List (Value → World → Prop)) (k : Nat), StableG J D B k Φ → ∀ i, D.contains (k + i) = false → ((B.getD p []).contains (k + i) = false) → ∀ v w w', J p w w' → factAt Φ i v w → factAt Φ i v w'
  | [], _, _, i, _, _ => fun _ _ _ _ _ => trivial
  | φ :: l, k, h, 0, hd, hb => by
    rcases h.1 with h1 | h1
    · rw [Nat.add_zero, h1] at hd; cases hd
    · rcases h1 p with h2 | h2
      · rw [Nat.add_zero, h2] at hb; cases hb
      · exact h2
  | φ :: l, k, h, i + 1, hd, hb => factAt_G l (k + 1) h.2 i (by rwa [show k + 1 + i = k + (i + 1) by omega]) (by rwa [show k + 1 + i = k + (i + 1) by omega])
/-- Whoever stands in the chain stands behind its head. -/
theorem reach_pred (md : Region.Mode) (ops : Array Oper) : ∀ (n m i x j : Nat), reachC md ops n i x = true → reachC md ops m x j = true → ∃ q, reachC md ops q i j = true
  | 0, m, i, x, j, h1, h2 => by
    have hx : x < ops.size ∨ ¬ x < ops.size := Nat.lt_or_ge x ops.size |>.imp id (by omega)
    rcases hx with hx | hx
    · refine ⟨m + 1, ?_⟩
      unfold reachC
      rw [Bool.or_eq_true]
      right
      exact List.any_eq_true.2 ⟨x, List.mem_range.2 hx, by rw [Bool.and_eq_true]; exact ⟨h1, h2⟩⟩
    · exfalso
      have hno : ∀ y, preds md ops x y = false := fun y => by unfold preds; rw [Array.getElem?_eq_none (by omega)]
      cases m with
      | zero => unfold reachC at h2; rw [hno] at h2; cases h2
      | succ m =>
        unfold reachC at h2
        rw [hno, Bool.false_or] at h2
        obtain ⟨y, _, hy⟩ := List.any_eq_true.1 h2
        rw [hno] at hy
        cases hy
  | n + 1, m, i, x, j, h1, h2 => by
    unfold reachC at h1
    rw [Bool.or_eq_true] at h1
    rcases h1 with h1 | h1
    · exact reach_pred md ops 0 m i x j h1 h2
    · obtain ⟨y, hy, hyy⟩ := List.any_eq_true.1 h1
      rw [Bool.and_eq_true] at hyy
      obtain ⟨q, hq⟩ := reach_pred md ops n m y x j hyy.2 h2
      refine ⟨q + 1, ?_⟩
      unfold reachC
      rw [Bool.or_eq_true]
      right
      exact List.any_eq_true.2 ⟨y, hy, by rw [Bool.and_eq_true]; exact ⟨hyy.1, hq⟩⟩
theorem chain_head (md : Region.Mode) (ops : Array Oper) : ∀ (a : Nat) (l : List Nat), chainC md ops (a :: l) = true → ∀ i ∈ l, ∃ n, reachC md ops n i a = true
  | a, [], _, i, hi => by cases hi
  | a, b :: l, h, i, hi => by
    have h2 := h
    unfold chainC at h2
    rw [Bool.and_eq_true, Bool.and_eq_true] at h2
    rcases List.mem_cons.1 hi with e | e
    · subst e
      exact ⟨3, h2.1.1⟩
    · obtain ⟨n, hn⟩ := chain_head md ops b l h2.2 i e
      exact reach_pred md ops n 3 i b a hn h2.1.1
structure CtxG (md : Region.Mode) (ops : Array Oper) (Φ : List (Value → World → Prop)) (a0 : Act) (I : World → Prop) (D : List Nat) (pD : Nat) (i : Nat) (a : Act) (w : World) : Prop where
  inv : I w
  old : ∀ d, later md ops i d = true → a.eval (.tmp d) = a0.eval (.tmp d)
  new : ∀ j d, preds md ops i j = true → dstAt ops j = some d → availG md ops D pD i j = true → factAt Φ j (a.eval (.tmp d)) w
theorem CtxG.was {i : Nat} {a : Act} {w : World} (c : CtxG md ops Φ a0 I D pD i a w) (d : Nat) {v : Value} (h : later md ops i d = true) (hv : a0.eval (.tmp d) = v) : a.eval (.tmp d) = v := (c.old d h).trans hv
theorem CtxG.got {i : Nat} {a : Act} {w : World} (c : CtxG md ops Φ a0 I D pD i a w) (j d : Nat) {φ : Value → World → Prop} (h : preds md ops i j = true) (hd : dstAt ops j = some d) (hav : availG md ops D pD i j = true) (hφ : factAt Φ j = φ) : φ (a.eval (.tmp d)) w := hφ ▸ c.new j d h hd hav
/-- Operation i, not of ms: the world only grows. -/
def OpOkG (P : Program) (md : Region.Mode) (ops : Array Oper) (Q : Exit → Act → World → Prop) (Φ : List (Value → World → Prop)) (a0 : Act) (I : World → Prop) (D : List Nat) (pD : Nat) (i : Nat) (o : Oper) : Prop :=
  ∀ (a : Act) (w : World), CtxG md ops Φ a0 I D pD i a w → ∀ K : Act → World → Prop, (∀ v w', Ev w w' → I w' → factAt Φ i v w' → K (a.put o.dst v) w') →
    if Region.wanted o (yielded ops a.tmps) = true then Oper.wp P o a w K Q else K (a.put o.dst undef) w
/-- Operation i, number p of ms. -/
def OpOkV (P : Program) (md : Region.Mode) (ops : Array Oper) (Q : Exit → Act → World → Prop) (Φ : List (Value → World → Prop)) (a0 : Act) (I : World → Prop) (J : Nat → World → World → Prop) (St : Nat → World → Prop) (D : List Nat) (pD : Nat) (G : (Nat → Bool) → Act → World → Prop) (p i : Nat) (o : Oper) : Prop :=
  ∀ (a : Act) (w : World), CtxG md ops Φ a0 I D pD i a w → St p w → (p = 0 → ∃ L : Nat → Bool, (∀ j, preds md ops i j = true → L j = true) ∧ G L a w) → ∀ K : Act → World → Prop, (∀ v w', J p w w' → I w' → St (p + 1) w' → factAt Φ i v w' → K (a.put o.dst v) w') →
    if Region.wanted o (yielded ops a.tmps) = true then Oper.wp P o a w K Q else K (a.put o.dst undef) w
/-- Operation i, of sp. -/
def OpOkS (P : Program) (md : Region.Mode) (ops : Array Oper) (Q : Exit → Act → World → Prop) (Φ : List (Value → World → Prop)) (a0 : Act) (I : World → Prop) (D : List Nat) (pD : Nat) (G : (Nat → Bool) → Act → World → Prop) (i : Nat) (o : Oper) : Prop :=
  ∀ (a : Act) (w : World) (L : Nat → Bool), CtxG md ops Φ a0 I D pD i a w → a.tmps.size = a0.tmps.size → (∀ j, preds md ops i j = true → L j = true) → L i = false → G L a w → ∀ K : Act → World → Prop,
    (∀ v w', Ev w w' → I w' → factAt Φ i v w' → (∀ L' : Nat → Bool, L' i = true → (∀ j, j ≠ i → L' j = L j) → G L' (a.put o.dst v) w') → K (a.put o.dst v) w') →
    if Region.wanted o (yielded ops a.tmps) = true then Oper.wp P o a w K Q else K (a.put o.dst undef) w
structure MidG (md : Region.Mode) (ops : Array Oper) (Φ : List (Value → World → Prop)) (a0 : Act) (I : World → Prop) (D : List Nat) (pD : Nat) (ms : List Nat) (St : Nat → World → Prop) (G : (Nat → Bool) → Act → World → Prop) (listed : Array Bool) (a : Act) (w : World) : Prop where
  size : listed.size = ops.size
  inv : I w
  defers : a.defers = a0.defers
  slots : a.tmps.size = a0.tmps.size
  closed : ∀ i j, listed.getD i false = true → preds md ops i j = true → listed.getD j false = true
  keep : ∀ d, (∀ i, listed.getD i false = true → dstAt ops i ≠ some d) → a.eval (.tmp d) = a0.eval (.tmp d)
  done : ∀ i d, listed.getD i false = true → (D.contains i = true → listed.getD pD false = false) → dstAt ops i = some d → factAt Φ i (a.eval (.tmp d)) w
  st : St (doneC listed ms) w
  jn : listed.getD pD false = false → G (fun j => listed.getD j false) a w
theorem MidG.step (ht : tidy md ops a0.tmps.size = true) {listed : Array Bool} {a : Act} {w w' : World} (h : MidG md ops Φ a0 I D pD ms St G listed a w) {i : Nat} {o : Oper} (ho : ops[i]? = some o)
    (hr : i ∈ Region.ready md ops listed) {v : Value} (hI : I w') (hkeep : ∀ j d, listed.getD j false = true → (D.contains j = true → listed.getD pD false = false ∧ i ≠ pD) → dstAt ops j = some d → factAt Φ j (a.eval (.tmp d)) w') (hv : factAt Φ i v w') (hst : St (doneC (listed.setIfInBounds i true) ms) w') (hjn : i ≠ pD → listed.getD pD false = false → G (fun j => (listed.setIfInBounds i true).getD j false) (a.put o.dst v) w') : MidG md ops Φ a0 I D pD ms St G (listed.setIfInBounds i true) (a.put o.dst v) w' := by
  have hi : i < ops.size := (Array.getElem?_eq_some_iff.1 ho).1
  have hdi : dstAt ops i = o.dst := by simp [dstAt, ho]
  have hset : ∀ j, (listed.setIfInBounds i true).getD j false = true → j = i ∨ listed.getD j false = true := by
    intro j hj
    by_cases hij : i = j
    · exact .inl hij.symm
    · rw [getD_set_ne false hij] at hj; exact .inr hj
  refine ⟨by simpa using h.size, hI, by rw [defers_put]; exact h.defers, by rw [size_put]; exact h.slots, ?_, ?_, ?_, hst, fun h2 => ?_⟩
  · intro j k hj hp
    apply getD_set_true
    rcases hset j hj with rfl | hj'
    · obtain ⟨_, o', ho', hall⟩ := mem_ready.1 hr
      rw [ho] at ho'
      obtain rfl := Option.some.inj ho'
      unfold preds at hp
      simp only [ho] at hp
      obtain ⟨e, he, hb⟩ := Array.any_eq_true'.1 hp
      simp only [Bool.and_eq_true, beq_iff_eq] at hb
      rw [← hb.2]
      exact hall e he hb.1
    · exact h.closed j k hj' hp
  · intro d hd
    have hne : o.dst ≠ some d := by
      rw [← hdi]
      exact hd i (by simp [h.size, hi])
    rw [eval_put_other hne]
    exact h.keep d fun j hj => hd j (getD_set_true hj)
  · intro j d hj hD hd
    have hD2 : D.contains j = true → listed.getD pD false = false ∧ i ≠ pD := fun h1 => by
      have h2 := hD h1
      by_cases hip : i = pD
      · subst hip
        rw [show (listed.setIfInBounds i true).getD i false = true by simp [h.size, hi]] at h2
        cases h2
      · rw [getD_set_ne false hip] at h2
        exact ⟨h2, hip⟩
    rcases hset j hj with rfl | hj'
    · rw [hdi] at hd
      rw [hd]
      have hsz := (tidy_dst ht (by rw [hdi]; exact hd)).1
      rw [eval_put_same (by rw [h.slots]; exact hsz)]
      exact hv
    · by_cases hij : j = i
      · subst hij
        rw [hdi] at hd
        rw [hd]
        have hsz := (tidy_dst ht (by rw [hdi]; exact hd)).1
        rw [eval_put_same (by rw [h.slots]; exact hsz)]
        exact hv
      · have hne : o.dst ≠ some d := by
          rw [← hdi]
          exact (tidy_dst ht hd).2 i (fun e => hij e.symm)
        rw [eval_put_other hne]
        exact hkeep j d hj' hD2 hd
  · by_cases hip : i = pD
    · subst hip
      rw [show (listed.setIfInBounds i true).getD i false = true by simp [h.size, hi]] at h2
      cases h2
    · rw [getD_set_ne false hip] at h2
      exact hjn hip h2

theorem wpAny_midG (ht : tidy md ops a0.tmps.size = true) (hm : AllMono Φ) (hJ : StableG J D B 0 Φ) (hch : chainC md ops ms = true) (hpD : ms[0]? = some pD) (hB : chkB md ops B ms = true) (hSE : ∀ p w w', Ev w w' → St p w → St p w')
    (hsp : (sp.all fun j => reachC md ops 3 pD j) = true) (hGs : ∀ (L L' : Nat → Bool) (a a' : Act) (w w' : World), (∀ j ∈ sp, L' j = L j) → (∀ j ∈ sp, ∀ d, dstAt ops j = some d → a'.eval (.tmp d) = a.eval (.tmp d)) → Ev w w' → G L a w → G L' a' w')
    (hops : ∀ i o, ops[i]? = some o → i ∉ ms ++ sp → OpOkG P md ops Q Φ a0 I D pD i o) (hsps : ∀ i o, ops[i]? = some o → i ∈ sp → OpOkS P md ops Q Φ a0 I D pD G i o) (htrn : ∀ p i o, ms[p]? = some i → ops[i]? = some o → OpOkV P md ops Q Φ a0 I J St D pD G p i o)
    (hQ : ∀ a w, I w → a.defers = a0.defers → a.tmps.size = a0.tmps.size → (∀ d, nobody ops d = true → a.eval (.tmp d) = a0.eval (.tmp d)) →
      (∀ i d, D.contains i = false → dstAt ops i = some d → factAt Φ i (a.eval (.tmp d)) w) → St (doneC ((Array.range ops.size).map fun _ => true) ms) w → Q .normal a w) :
    ∀ (fuel : Nat) (listed : Array Bool) (a : Act) (w : World), unlisted listed ops.size ≤ fuel → MidG md ops Φ a0 I D pD ms St G listed a w → wpAny P md ops Q fuel listed a w := by
  have fin : ∀ (listed : Array Bool) (a : Act) (w : World), Region.ready md ops listed = [] → MidG md ops Φ a0 I D pD ms St G listed a w → Q .normal a w := by
    intro listed a w hr h
    have hall := all_listed ht h.size hr
    refine hQ a w h.inv h.defers h.slots (fun d hd => h.keep d fun i hi hid => ?_) (fun i d hD hd => h.done i d (hall i ?_) (fun h1 => by rw [hD] at h1; cases h1) hd) ?_
    · have hlt : i < ops.size := by
        unfold dstAt at hid
        cases ho : ops[i]? with
        | none => simp [ho] at hid
        | some o => exact (Array.getElem?_eq_some_iff.1 ho).1
      have := (List.all_eq_true.1 hd) i (List.mem_range.2 hlt)
      simp [hid] at this
    · unfold dstAt at hd
      cases ho : ops[i]? with
      | none => simp [ho] at hd
      | some o => exact (Array.getElem?_eq_some_iff.1 ho).1
    · have : doneC listed ms = doneC ((Array.range ops.size).map fun _ => true) ms := by
        unfold doneC
        refine List.countP_congr fun i _ => ?_
        by_cases hi : i < ops.size
        · rw [hall i hi]
          simp [hi]
        · have h1 : listed.getD i false = false := by
            have : ¬ i < listed.size := by rw [h.size]; exact hi
            simp [this]
          rw [h1]
          simp [hi]
      rw [← this]
      exact h.st
  intro fuel
  induction fuel with
  | zero =>
    intro listed a w hu h
    have hr : Region.ready md ops listed = [] := by
      apply List.eq_nil_iff_forall_not_mem.2
      intro i hi
      obtain ⟨h0, o, ho, _⟩ := mem_ready.1 hi
      have hlt : i < ops.size := (Array.getElem?_eq_some_iff.1 ho).1
      have : unlisted listed ops.size = 0 := by omega
      unfold unlisted at this
      rw [List.countP_eq_zero] at this
      have h1 := this i (List.mem_range.2 hlt)
      have hl : i < listed.size := by rw [h.size]; exact hlt
      simp [hl] at h0 h1
      rw [h0] at h1
      cases h1
    exact ⟨hr, fin listed a w hr h⟩
  | succ fuel ih =>
    intro listed a w hu h
    refine ⟨fun hr => fin listed a w hr h, fun i hi => ?_⟩
    obtain ⟨h0, o, ho, hall⟩ := mem_ready.1 hi
    have hlt : i < ops.size := (Array.getElem?_eq_some_iff.1 ho).1
    have hl : i < listed.size := by rw [h.size]; exact hlt
    have hun : listed.getD i false = false := by simpa [hl] using h0
    have hcount := unlisted_set h.size hlt hun
    have hpl : ∀ j, preds md ops i j = true → listed.getD j false = true := fun j hp => by
      unfold preds at hp
      simp only [ho] at hp
      obtain ⟨e, he, hb⟩ := Array.any_eq_true'.1 hp
      simp only [Bool.and_eq_true, beq_iff_eq] at hb
      rw [← hb.2]
      exact hall e he hb.1
    have hctx : CtxG md ops Φ a0 I D pD i a w := by
      refine ⟨h.inv, fun d hd => h.keep d fun j hj hjd => ?_, fun j d hp hd hav => h.done j d (hpl j hp) (fun h1 => ?_) hd⟩
      · have hltj : j < ops.size := by
          unfold dstAt at hjd
          cases hoj : ops[j]? with
          | none => simp [hoj] at hjd
          | some o => exact (Array.getElem?_eq_some_iff.1 hoj).1
        have h1 := (List.all_eq_true.1 hd) j (List.mem_range.2 hltj)
        simp only [Bool.or_eq_true, beq_iff_eq, bne_iff_ne] at h1
        rcases h1 with (h1 | h1) | h1
        · subst h1; rw [hun] at hj; cases hj
        · exact h1 hjd
        · have := h.closed j i hj h1
          rw [hun] at this; cases this
      · unfold availG at hav
        rw [h1, Bool.not_true, Bool.false_or, Bool.or_eq_true, beq_iff_eq] at hav
        cases hpl2 : listed.getD pD false
        · rfl
        · rcases hav with h2 | h2
          · rw [← h2, hun] at hpl2; cases hpl2
          · have := reach_closed h.closed 3 pD i h2 hpl2
            rw [hun] at this; cases this
    have hpre : ∀ j, (∃ n, reachC md ops n i j = true) → listed.getD j false = true := fun j ⟨n, hre⟩ => by
      cases n with
      | zero => exact hpl j hre
      | succ n =>
        unfold reachC at hre
        rw [Bool.or_eq_true] at hre
        rcases hre with hre | hre
        · exact hpl j hre
        · obtain ⟨x, _, hx⟩ := List.any_eq_true.1 hre
          rw [Bool.and_eq_true] at hx
          exact reach_closed h.closed n x j hx.2 (hpl x hx.1)
    refine wpOp_step ho fun K' hK' => ?_
    by_cases him : i ∈ ms
    · obtain ⟨p, hp⟩ := List.getElem?_of_mem him
      have hdn : doneC listed ms = p := chain_at h.closed ms p i hch hp hun fun j n hre hij => by
        cases n with
        | zero => exact hpl j hre
        | succ n =>
          unfold reachC at hre
          rw [Bool.or_eq_true] at hre
          rcases hre with hre | hre
          · exact hpl j hre
          · obtain ⟨x, _, hx⟩ := List.any_eq_true.1 hre
            rw [Bool.and_eq_true] at hx
            exact reach_closed h.closed n x j hx.2 (hpl x hx.1)
      have hst : St p w := hdn ▸ h.st
      have hp0 : p = 0 → i = pD := fun e => by
        subst e
        rw [hpD] at hp
        exact (Option.some.inj hp).symm
      have hlp : ¬ p = 0 → listed.getD pD false = true := fun e => by
        cases hms : ms with
        | nil => rw [hms] at him; cases him
        | cons m0 ml0 =>
          rw [hms] at hpD hp hch
          simp at hpD
          subst hpD
          cases p with
          | zero => exact absurd rfl e
          | succ p =>
            have hil : i ∈ ml0 := List.mem_of_getElem? (by simpa using hp)
            exact hpre m0 (chain_head md ops m0 ml0 hch i hil)
      refine htrn p i o hp ho a w hctx hst (fun e => ⟨_, hpl, h.jn (by rw [← hp0 e]; exact hun)⟩) K' fun v w' hJw hI' hst' hv => hK' _ _ (ih _ _ _ (by omega) (h.step ht ho hi hI' (fun j d hj hD hd => by
        have hDn : D.contains j = false := by
          cases hDj : D.contains j
          · rfl
          · obtain ⟨h1, h2⟩ := hD hDj
            exfalso
            cases hms : ms with
            | nil => rw [hms] at him; cases him
            | cons m0 ml0 =>
              rw [hms] at hpD him hch
              simp at hpD
              subst hpD
              rcases List.mem_cons.1 him with e | e
              · exact h2 e
              · obtain ⟨k, hk⟩ := List.getElem?_of_mem e
                have hup := chain_head md ops m0 ml0 hch i e
                have := hpre m0 hup
                rw [h1] at this; cases this
        have hBn : (B.getD p []).contains j = false := by
          cases hBj : (B.getD p []).contains j
          · rfl
          · exfalso
            have h1 := List.all_eq_true.1 (chkB_at B ms hB p i hp) j (by simpa using hBj)
            rw [Bool.or_eq_true, beq_iff_eq] at h1
            rcases h1 with h1 | h1
            · subst h1
              rw [hun] at hj; cases hj
            · have := reach_closed h.closed 3 j _ h1 hj
              rw [hun] at this; cases this
        exact factAt_G (p := p) Φ 0 hJ j (by rwa [Nat.zero_add]) (by rwa [Nat.zero_add]) _ _ _ hJw (h.done j d hj (fun h3 => by rw [hDn] at h3; cases h3) hd)) hv ?_ fun hne hlf => by
          by_cases e : p = 0
          · exact absurd (hp0 e) hne
          · rw [hlp e] at hlf; cases hlf))
      rw [done_set_in hl hun ms (chain_pairwise ms hch) him, hdn]
      exact hst'
    · by_cases his : i ∈ sp
      · have hlf : listed.getD pD false = false := by
          cases hpl2 : listed.getD pD false
          · rfl
          · have := reach_closed h.closed 3 pD i (List.all_eq_true.1 hsp i his) hpl2
            rw [hun] at this; cases this
        refine hsps i o ho his a w _ hctx h.slots hpl hun (h.jn hlf) K' fun v w' hE hI' hv hG => hK' _ _ (ih _ _ _ (by omega) (h.step ht ho hi hI' (fun j d hj hD hd => factAt_mono Φ hm j _ _ _ hE (h.done j d hj (fun h3 => (hD h3).1) hd)) hv ?_ fun _ _ => hG _ ?_ ?_))
        · rw [done_set hl ms him]
          exact hSE _ _ _ hE h.st
        · simp [hl]
        · intro j hj
          exact getD_set_ne false (fun e => hj e.symm)
      · refine hops i o ho (fun hm => (List.mem_append.1 hm).elim him his) a w hctx K' fun v w' hE hI' hv => hK' _ _ (ih _ _ _ (by omega) (h.step ht ho hi hI' (fun j d hj hD hd => factAt_mono Φ hm j _ _ _ hE (h.done j d hj (fun h3 => (hD h3).1) hd)) hv ?_ fun _ hlf => ?_))
        · rw [done_set hl ms him]
          exact hSE _ _ _ hE h.st
        · refine hGs _ _ a _ w w' (fun j hj => getD_set_ne false (fun e => his (e ▸ hj))) (fun j hj d hd => eval_put_other fun e => ?_) hE (h.jn hlf)
          have hdi : dstAt ops i = some d := by simp [dstAt, ho, e]
          exact (tidy_dst ht hdi).2 j (fun e2 => his (e2 ▸ hj)) hd

/-- The region, and behind it the frame written out over its slots s. -/
theorem wp_region_slotsG {id : Nat} {w0 : World} (hmix : P.follows .mixedOrders = true) (I : World → Prop) (J : Nat → World → World → Prop) (ms : List Nat) (St : Nat → World → Prop) (D : List Nat) (B : List (List Nat)) (pD : Nat) (Φ : List (Value → World → Prop)) (n q : Nat) (hn : a0.tmps.size = n) (ht : tidy .any ops n = true) (hm : AllMono Φ) (hJ : StableG J D B 0 Φ) (hch : chainC .any ops ms = true) (hpD : ms[0]? = some pD) (hB : chkB .any ops B ms = true) (hSE : ∀ p w w', Ev w w' → St p w → St p w') (hIE : ∀ w w', Ev w w' → I w → I w')
    (hI : I w0) (hS : St 0 w0) (hq : doneC ((Array.range ops.size).map fun _ => true) ms = q)
    (G : (Nat → Bool) → Act → World → Prop) (sp : List Nat) (hsp : (sp.all fun j => reachC .any ops 3 pD j) = true) (hGs : ∀ (L L' : Nat → Bool) (a a' : Act) (w w' : World), (∀ j ∈ sp, L' j = L j) → (∀ j ∈ sp, ∀ d, dstAt ops j = some d → a'.eval (.tmp d) = a.eval (.tmp d)) → Ev w w' → G L a w → G L' a' w') (hG0 : ∀ L : Nat → Bool, (∀ j, L j = false) → G L a0 w0)
    (hops : ∀ i o, ops[i]? = some o → 0 + i ∉ ms ++ sp → OpOkG P .any ops Q Φ a0 I D pD (0 + i) o) (hsps : ∀ (p i : Nat) (o : Oper), sp[p]? = some i → ops[i]? = some o → OpOkS P .any ops Q Φ a0 I D pD G i o) (htrn : ∀ p i o, ms[p]? = some i → ops[i]? = some o → OpOkV P .any ops Q Φ a0 I J St D pD G (0 + p) i o)
    (hQ : ∀ (s : Nat → Value) w, I w → (∀ d, nobody ops d = true → s d = a0.eval (.tmp d)) →
      (∀ i d, D.contains i = false → dstAt ops i = some d → factAt Φ i (s d) w) → St q w → Q .normal ⟨((List.range n).map s).toArray, a0.defers⟩ w) :
    (Code.region id ops true).wp P Q a0 w0 := by
  subst hn
  subst hq
  refine wp_region_any hmix (wpAny_midG ht hm hJ hch hpD hB hSE hsp hGs (fun i o ho hi => by have := hops i o ho (by rwa [Nat.zero_add]); rwa [Nat.zero_add] at this) (fun i o ho hi => by obtain ⟨p, hp⟩ := List.getElem?_of_mem hi; exact hsps p i o hp ho) (fun p i o hp ho => by have := htrn p i o hp ho; rwa [Nat.zero_add] at this) ?_ ops.size _ _ _ ?_ ⟨by simp, hIE _ _ (Ev.drew w0) hI, rfl, rfl, ?_, fun _ _ => rfl, ?_, ?_, fun _ => hGs _ _ a0 a0 w0 w0.drew (fun j _ => rfl) (fun _ _ _ _ => rfl) (Ev.drew w0) (hG0 _ fun j => ?_)⟩)
  · intro a w hE hd hs hold hnew hp
    rw [frame_eq hs, hd]
    exact hQ (fun d => a.eval (.tmp d)) w hE hold hnew hp
  · unfold unlisted
    exact Nat.le_trans List.countP_le_length (by simp)
  · intro i j hi
    exfalso
    by_cases hlt : i < ops.size <;> simp [hlt] at hi
  · intro i d hi _
    exfalso
    by_cases hlt : i < ops.size <;> simp [hlt] at hi
  · have : doneC (Array.replicate ops.size false) ms = 0 := by
      unfold doneC
      rw [List.countP_eq_zero]
      intro i _
      by_cases hlt : i < ops.size <;> simp [hlt]
    rw [this]
    exact hSE _ _ _ (Ev.drew w0) hS
  · by_cases hlt : j < ops.size <;> simp [hlt]
theorem opg_value {i : Nat} {o : Oper} (h : ∀ a w, CtxG md ops Φ a0 I D pD i a w → Region.wanted o (yielded ops a.tmps) = true ∧ ∃ v, (execOp a.eval o).run P w = .ok (.value v) w ∧ factAt Φ i v w) : OpOkG P md ops Q Φ a0 I D pD i o := by
  intro a w c K hK
  obtain ⟨hw, v, hr, hv⟩ := h a w c
  rw [if_pos hw]
  unfold Oper.wp
  rw [hr]
  exact hK v w (Ev.refl w) c.inv hv
theorem opg_makes {i : Nat} {o : Oper} (h : ∀ a w, CtxG md ops Φ a0 I D pD i a w → Region.wanted o (yielded ops a.tmps) = true ∧ ∃ v w', (execOp a.eval o).run P w = .ok (.value v) w' ∧ Ev w w' ∧ I w' ∧ factAt Φ i v w') : OpOkG P md ops Q Φ a0 I D pD i o := by
  intro a w c K hK
  obtain ⟨hw, v, w', hr, hE', hI', hv⟩ := h a w c
  rw [if_pos hw]
  unfold Oper.wp
  rw [hr]
  exact hK v w' hE' hI' hv
/-- Of sp: a builtin or a literal. -/
theorem ops_makes {i : Nat} {o : Oper} (h : ∀ a w (L : Nat → Bool), CtxG md ops Φ a0 I D pD i a w → a.tmps.size = a0.tmps.size → (∀ j, preds md ops i j = true → L j = true) → L i = false → G L a w → Region.wanted o (yielded ops a.tmps) = true ∧ ∃ v w', (execOp a.eval o).run P w = .ok (.value v) w' ∧ Ev w w' ∧ I w' ∧ factAt Φ i v w' ∧ ∀ L' : Nat → Bool, L' i = true → (∀ j, j ≠ i → L' j = L j) → G L' (a.put o.dst v) w') : OpOkS P md ops Q Φ a0 I D pD G i o := by
  intro a w L c hs hp hu hg K hK
  obtain ⟨hw, v, w', hr, h1, h2, h3, h4⟩ := h a w L c hs hp hu hg
  rw [if_pos hw]
  unfold Oper.wp
  rw [hr]
  exact hK v w' h1 h2 h3 h4
/-- A call: the world grows. -/
theorem opg_call {i : Nat} {o : Oper} (h : ∀ a w, CtxG md ops Φ a0 I D pD i a w → Region.wanted o (yielded ops a.tmps) = true ∧ ∃ f args, (execOp a.eval o).run P w = .ok (.enter f args) w ∧
    Calls P f args w fun e w' => ∃ v, e = .returned v ∧ Ev w w' ∧ I w' ∧ factAt Φ i v w') : OpOkG P md ops Q Φ a0 I D pD i o := by
  intro a w c K hK
  obtain ⟨hw, f, args, hr, hc⟩ := h a w c
  rw [if_pos hw]
  unfold Oper.wp
  rw [hr]
  refine hc.mono ?_
  rintro e w' ⟨v, rfl, h1, h2, h3⟩
  exact hK v w' h1 h2 h3
/-- A builtin that turns. -/
theorem opv_makes {p i : Nat} {o : Oper} (h : ∀ a w, CtxG md ops Φ a0 I D pD i a w → St p w → (p = 0 → ∃ L : Nat → Bool, (∀ j, preds md ops i j = true → L j = true) ∧ G L a w) → Region.wanted o (yielded ops a.tmps) = true ∧ ∃ v w', (execOp a.eval o).run P w = .ok (.value v) w' ∧ J p w w' ∧ I w' ∧ St (p + 1) w' ∧ factAt Φ i v w') : OpOkV P md ops Q Φ a0 I J St D pD G p i o := by
  intro a w c hst hg K hK
  obtain ⟨hw, v, w', hr, h1, h2, h3, h4⟩ := h a w c hst hg
  rw [if_pos hw]
  unfold Oper.wp
  rw [hr]
  exact hK v w' h1 h2 h3 h4
/-- A store. -/
theorem opv_store {p i : Nat} {o : Oper} (hd : o.dst = none) (h : ∀ a w, CtxG md ops Φ a0 I D pD i a w → St p w → (p = 0 → ∃ L : Nat → Bool, (∀ j, preds md ops i j = true → L j = true) ∧ G L a w) → Region.wanted o (yielded ops a.tmps) = true ∧ ∃ w', (execOp a.eval o).run P w = .ok .skip w' ∧ J p w w' ∧ I w' ∧ St (p + 1) w' ∧ factAt Φ i undef w') : OpOkV P md ops Q Φ a0 I J St D pD G p i o := by
  intro a w c hst hg K hK
  obtain ⟨hw, w', hr, h1, h2, h3, h4⟩ := h a w c hst hg
  rw [if_pos hw]
  exact wp_of_skip hr (hK undef w' h1 h2 h3 h4)
theorem sps_nil {R : Nat → Oper → Prop} {ops : Array Oper} : ∀ (p i : Nat) (o : Oper), ([] : List Nat)[p]? = some i → ops[i]? = some o → R i o := by
  intro p i o h
  simp at h
theorem sps_cons {R : Nat → Oper → Prop} {ops : Array Oper} {m : Nat} {sp : List Nat} {o0 : Oper} (ho : ops[m]? = some o0) (h0 : R m o0) (h : ∀ (p i : Nat) (o : Oper), sp[p]? = some i → ops[i]? = some o → R i o) : ∀ (p i : Nat) (o : Oper), (m :: sp)[p]? = some i → ops[i]? = some o → R i o := by
  intro p i o hp hi
  cases p with
  | zero =>
    simp at hp
    subst hp
    rw [ho] at hi
    obtain rfl := Option.some.inj hi
    exact h0
  | succ p => exact h p i o (by simpa using hp) hi
end
end Go.Proofs.YthpiobkghfdkkaaGreat

namespace Go.Proofs.YthpiobkghfdkkaaGreat
open Go.RowKit
set_option linter.unusedVariables false

section
variable {P : Program} {md : Region.Mode} {ops : Array Oper} {Q : Exit → Act → World → Prop} {Φ : List (Value → World → Prop)} {a0 : Act} {J : World → World → Prop} {I : World → Prop} {ms : List Nat} {St : Nat → World → Prop} {ml jm dm q : Nat} {Ψ : Value → World → Prop}
end
end Go.Proofs.YthpiobkghfdkkaaGreat

namespace Go.Proofs.YthpiobkghfdkkaaGreat
open Go.RowKit
set_option linter.unusedVariables false

section
variable {P : Program} {md : Region.Mode} {ops : Array Oper} {Q : Exit → Act → World → Prop} {Φ : List (Value → World → Prop)} {a0 : Act} {J : Nat → World → World → Prop} {I : World → Prop} {ms : List Nat} {St : Nat → World → Prop}
end
end Go.Proofs.YthpiobkghfdkkaaGreat

namespace Go.Proofs.YthpiobkghfdkkaaGreat
open Go.RowKit
set_option linter.unusedVariables false

section
variable {P : Program} {md : Region.Mode} {ops : Array Oper} {Q : Exit → Act → World → Prop} {Φ : List (Value → World → Prop)} {a0 : Act} {w0 : World}

theorem wpAny_lastE (ht : tidy md ops a0.tmps.size = true) (hm : AllMono Φ) {m : Nat} {om : Oper} (hom : ops[m]? = some om) (hsz : ops.size = m + 1) (hall : (List.range m).all (fun j => preds md ops m j || (List.range m).any fun k => preds md ops m k && preds md ops k j) = true)
    (hops : ∀ i o, ops[i]? = some o → i < m → OpOk P md ops Q Φ a0 w0 i o)
    (hQ : ∀ a w, Ev w0 w → a.defers = a0.defers → a.tmps.size = a0.tmps.size → (∀ d, nobody ops d = true → a.eval (.tmp d) = a0.eval (.tmp d)) →
      (∀ i d, i < m → dstAt ops i = some d → factAt Φ i (a.eval (.tmp d)) w) →
      Region.wanted om (yielded ops a.tmps) = true ∧ Oper.wp P om a w (Q .normal) Q) :
    ∀ (fuel : Nat) (listed : Array Bool) (a : Act) (w : World), unlisted listed ops.size ≤ fuel → listed.getD m false = false → Mid md ops Φ a0 w0 listed a w → wpAny P md ops Q fuel listed a w := by
  have hmlt : m < ops.size := by omega
  intro fuel
  induction fuel with
  | zero =>
    intro listed a w hu hml h
    exfalso
    have : unlisted listed ops.size = 0 := by omega
    unfold unlisted at this
    rw [List.countP_eq_zero] at this
    exact this m (List.mem_range.2 hmlt) (by rw [hml]; rfl)
  | succ fuel ih =>
    intro listed a w hu hml h
    refine ⟨fun hr => ?_, fun i hi => ?_⟩
    · have := all_listed ht h.size hr m hmlt
      rw [hml] at this
      cases this
    · obtain ⟨h0, o, ho, hbef⟩ := mem_ready.1 hi
      have hlt : i < ops.size := (Array.getElem?_eq_some_iff.1 ho).1
      have hl : i < listed.size := by rw [h.size]; exact hlt
      have hun : listed.getD i false = false := by simpa [hl] using h0
      by_cases him : i = m
      · subst him
        rw [hom] at ho
        obtain rfl := Option.some.inj ho
        have hdone : ∀ j, j < i → listed.getD j false = true := by
          have hdir : ∀ j, preds md ops i j = true → listed.getD j false = true := by
            intro j hp
            unfold preds at hp
            simp only [hom] at hp
            obtain ⟨e, he, hb⟩ := Array.any_eq_true'.1 hp
            simp only [Bool.and_eq_true, beq_iff_eq] at hb
            rw [← hb.2]
            exact hbef e he hb.1
          intro j hj
          have hp := (List.all_eq_true.1 hall) j (List.mem_range.2 hj)
          rcases Bool.or_eq_true_iff.1 hp with hp | hp
          · exact hdir j hp
          · obtain ⟨k, _, hk⟩ := List.any_eq_true.1 hp
            obtain ⟨h1, h2⟩ := Bool.and_eq_true_iff.1 hk
            exact h.closed k j (hdir k h1) h2
        obtain ⟨hw, hwp⟩ := hQ a w h.ev h.defers h.slots (fun d hd => h.keep d fun j hj hjd => by
            have hltj : j < ops.size := by
              unfold dstAt at hjd
              cases hoj : ops[j]? with
              | none => simp [hoj] at hjd
              | some o => exact (Array.getElem?_eq_some_iff.1 hoj).1
            have := (List.all_eq_true.1 hd) j (List.mem_range.2 hltj)
            simp [hjd] at this) (fun j d hj hd => h.done j d (hdone j hj) hd)
        refine wpOp_step hom fun K' hK' => ?_
        rw [if_pos hw]
        refine Oper.wp_mono (fun a' w' hq => hK' a' w' (wpAny_done ?_ hq fuel)) hwp
        apply List.eq_nil_iff_forall_not_mem.2
        intro j hj
        obtain ⟨hj0, oj, hoj, _⟩ := mem_ready.1 hj
        have hltj : j < ops.size := (Array.getElem?_eq_some_iff.1 hoj).1
        have hlj : j < (listed.setIfInBounds i true).size := by simp [h.size, hltj]
        have hjt : (listed.setIfInBounds i true).getD j false = true := by
          by_cases hji : j = i
          · subst hji; simp [hl]
          · exact getD_set_true (hdone j (by omega))
        simp only [Array.getD_eq_getD_getElem?, Array.getElem?_eq_getElem hlj, Option.getD_some] at hj0 hjt
        rw [hj0] at hjt
        cases hjt
      · have hcount := unlisted_set h.size hlt hun
        refine wpOp_step ho fun K' hK' => ?_
        refine hops i o ho (by omega) a w h.ev h.defers (fun d hd => h.keep d fun j hj hjd => ?_) (fun j d hp hd => ?_) K' (fun v w' hE hv => hK' _ _ (ih _ _ _ (by omega) ?_ (h.step ht hm ho hi hE hv)))
        · have hltj : j < ops.size := by
            unfold dstAt at hjd
            cases hoj : ops[j]? with
            | none => simp [hoj] at hjd
            | some o => exact (Array.getElem?_eq_some_iff.1 hoj).1
          have h1 := (List.all_eq_true.1 hd) j (List.mem_range.2 hltj)
          simp only [Bool.or_eq_true, beq_iff_eq, bne_iff_ne] at h1
          rcases h1 with (h1 | h1) | h1
          · subst h1; rw [hun] at hj; cases hj
          · exact h1 hjd
          · have := h.closed j i hj h1
            rw [hun] at this; cases this
        · refine h.done j d ?_ hd
          unfold preds at hp
          simp only [ho] at hp
          obtain ⟨e, he, hb⟩ := Array.any_eq_true'.1 hp
          simp only [Bool.and_eq_true, beq_iff_eq] at hb
          rw [← hb.2]
          exact hbef e he hb.1
        · rw [getD_set_ne false him]
          exact hml

/-- The region, its last operation run in the frame written out over its slots s. -/
theorem wp_region_lastE {id : Nat} (hmix : P.follows .mixedOrders = true) (Φ : List (Value → World → Prop)) (n : Nat) (hn : a0.tmps.size = n) (m : Nat) (om : Oper) (hom : ops[m]? = some om) (hsz : ops.size = m + 1)
    (hall : (List.range m).all (fun j => preds .any ops m j || (List.range m).any fun k => preds .any ops m k && preds .any ops k j) = true) (ht : tidy .any ops n = true) (hm : AllMono Φ)
    (hops : ∀ i o, ops[i]? = some o → i < m → OpOk P .any ops Q Φ a0 w0 i o)
    (hQ : ∀ (s : Nat → Value) w, Ev w0 w → (∀ d, nobody ops d = true → s d = a0.eval (.tmp d)) → (∀ i d, i < m → dstAt ops i = some d → factAt Φ i (s d) w) →
      Region.wanted om (yielded ops ((List.range n).map s).toArray) = true ∧ Oper.wp P om ⟨((List.range n).map s).toArray, a0.defers⟩ w (Q .normal) Q) :
    (Code.region id ops true).wp P Q a0 w0 := by
  subst hn
  refine wp_region_any hmix (wpAny_lastE ht hm hom hsz hall hops ?_ ops.size _ _ _ ?_ ?_ ⟨by simp, ?_, rfl, rfl, ?_, fun _ _ => rfl, ?_⟩)
  · intro a w hE hd hs hold hnew
    have hf := frame_eq hs
    rw [hd] at hf
    have hq := hQ (fun d => a.eval (.tmp d)) w hE hold hnew
    rw [hf]
    rw [← hf] at hq ⊢
    exact ⟨by have := hq.1; rwa [show ((List.range a0.tmps.size).map fun d => a.eval (.tmp d)).toArray = a.tmps from (congrArg Act.tmps hf).symm] at this, hq.2⟩
  · unfold unlisted
    exact Nat.le_trans List.countP_le_length (by simp)
  · have hlt : m < ops.size := by omega
    simp [hlt]
  · exact ⟨rfl, rfl, rfl, Nat.le_refl _, fun _ _ => rfl⟩
  · intro i j hi
    exfalso
    by_cases hlt : i < ops.size <;> simp [hlt] at hi
  · intro i d hi
    exfalso
    by_cases hlt : i < ops.size <;> simp [hlt] at hi

end
end Go.Proofs.YthpiobkghfdkkaaGreat
