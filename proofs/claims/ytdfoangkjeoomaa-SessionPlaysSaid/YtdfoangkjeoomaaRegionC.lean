/-
  A region that draws its order, some of whose operations (ms: calls and stores, each behind the one ahead of it) turn memory: all orders once. What is said of the operations' values stays true while the world grows and through those turns (J); St j is what one knows of the memory that is turned once j of them are done; I holds all along.
-/
import Derived.Test.YtdfoangkjeoomaaRegionT
namespace Go.Proofs.Ytdfoangkjeoomaa
open Go.RowKit
set_option linter.unusedVariables false

section
variable {P : Program} {md : Region.Mode} {ops : Array Oper} {Q : Exit → Act → World → Prop} {Φ : List (Value → World → Prop)} {a0 : Act} {J : World → World → Prop} {I : World → Prop} {ms : List Nat} {St : Nat → World → Prop}

/-- Operation j stands, by any number of steps, ahead of i. -/
def reachC (md : Region.Mode) (ops : Array Oper) : Nat → Nat → Nat → Bool
  | 0, i, j => preds md ops i j
  | n + 1, i, j => preds md ops i j || (List.range ops.size).any fun x => preds md ops i x && reachC md ops n x j
/-- Each of ms stands behind the one ahead of it. -/
def chainC (md : Region.Mode) (ops : Array Oper) : List Nat → Bool
  | [] => true
  | [_] => true
  | a :: b :: l => reachC md ops 3 b a && decide (a < b) && chainC md ops (b :: l)
def StableJ (J : World → World → Prop) : List (Value → World → Prop) → Prop
  | [] => True
  | φ :: l => (∀ v w w', J w w' → φ v w → φ v w') ∧ StableJ J l
theorem factAt_J : ∀ (Φ : List (Value → World → Prop)), StableJ J Φ → ∀ i v w w', J w w' → factAt Φ i v w → factAt Φ i v w'
  | [], _, i => fun _ _ _ _ _ => trivial
  | φ :: l, h, 0 => h.1
  | φ :: l, h, i + 1 => factAt_J l h.2 i
structure CtxC (md : Region.Mode) (ops : Array Oper) (Φ : List (Value → World → Prop)) (a0 : Act) (I : World → Prop) (i : Nat) (a : Act) (w : World) : Prop where
  inv : I w
  old : ∀ d, later md ops i d = true → a.eval (.tmp d) = a0.eval (.tmp d)
  new : ∀ j d, preds md ops i j = true → dstAt ops j = some d → factAt Φ j (a.eval (.tmp d)) w
theorem CtxC.was {i : Nat} {a : Act} {w : World} (c : CtxC md ops Φ a0 I i a w) (d : Nat) {v : Value} (h : later md ops i d = true) (hv : a0.eval (.tmp d) = v) : a.eval (.tmp d) = v := (c.old d h).trans hv
theorem CtxC.got {i : Nat} {a : Act} {w : World} (c : CtxC md ops Φ a0 I i a w) (j d : Nat) {φ : Value → World → Prop} (h : preds md ops i j = true) (hd : dstAt ops j = some d) (hφ : factAt Φ j = φ) : φ (a.eval (.tmp d)) w := hφ ▸ c.new j d h hd
/-- Operation i, not of ms: the world only grows. -/
def OpOkC (P : Program) (md : Region.Mode) (ops : Array Oper) (Q : Exit → Act → World → Prop) (Φ : List (Value → World → Prop)) (a0 : Act) (I : World → Prop) (i : Nat) (o : Oper) : Prop :=
  ∀ (a : Act) (w : World), CtxC md ops Φ a0 I i a w → ∀ K : Act → World → Prop, (∀ v w', Ev w w' → I w' → factAt Φ i v w' → K (a.put o.dst v) w') →
    if Region.wanted o (yielded ops a.tmps) = true then Oper.wp P o a w K Q else K (a.put o.dst undef) w
/-- Operation i, number p of ms. -/
def OpOkT (P : Program) (md : Region.Mode) (ops : Array Oper) (Q : Exit → Act → World → Prop) (Φ : List (Value → World → Prop)) (a0 : Act) (I : World → Prop) (J : World → World → Prop) (St : Nat → World → Prop) (p i : Nat) (o : Oper) : Prop :=
  ∀ (a : Act) (w : World), CtxC md ops Φ a0 I i a w → St p w → ∀ K : Act → World → Prop, (∀ v w', J w w' → I w' → St (p + 1) w' → factAt Φ i v w' → K (a.put o.dst v) w') →
    if Region.wanted o (yielded ops a.tmps) = true then Oper.wp P o a w K Q else K (a.put o.dst undef) w
/-- How many of ms are listed. -/
def doneC (listed : Array Bool) (ms : List Nat) : Nat := ms.countP fun i => listed.getD i false
structure MidC (md : Region.Mode) (ops : Array Oper) (Φ : List (Value → World → Prop)) (a0 : Act) (I : World → Prop) (ms : List Nat) (St : Nat → World → Prop) (listed : Array Bool) (a : Act) (w : World) : Prop where
  size : listed.size = ops.size
  inv : I w
  defers : a.defers = a0.defers
  slots : a.tmps.size = a0.tmps.size
  closed : ∀ i j, listed.getD i false = true → preds md ops i j = true → listed.getD j false = true
  keep : ∀ d, (∀ i, listed.getD i false = true → dstAt ops i ≠ some d) → a.eval (.tmp d) = a0.eval (.tmp d)
  done : ∀ i d, listed.getD i false = true → dstAt ops i = some d → factAt Φ i (a.eval (.tmp d)) w
  st : St (doneC listed ms) w
theorem reach_closed {listed : Array Bool} (hc : ∀ i j, listed.getD i false = true → preds md ops i j = true → listed.getD j false = true) : ∀ (n i j : Nat), reachC md ops n i j = true → listed.getD i false = true → listed.getD j false = true
  | 0, i, j, h, hl => hc i j hl h
  | n + 1, i, j, h, hl => by
    unfold reachC at h
    rw [Bool.or_eq_true] at h
    rcases h with h | h
    · exact hc i j hl h
    · obtain ⟨x, _, hx⟩ := List.any_eq_true.1 h
      rw [Bool.and_eq_true] at hx
      exact reach_closed hc n x j hx.2 (hc i x hl hx.1)
theorem chain_tail : ∀ {a : Nat} {l : List Nat}, chainC md ops (a :: l) = true → chainC md ops l = true
  | a, [], _ => rfl
  | a, b :: l, h => by
    unfold chainC at h
    rw [Bool.and_eq_true] at h
    exact h.2
/-- Of a chain, what is not listed at its head is not listed at all. -/
theorem chain_none {listed : Array Bool} (hc : ∀ i j, listed.getD i false = true → preds md ops i j = true → listed.getD j false = true) : ∀ (a : Nat) (l : List Nat), chainC md ops (a :: l) = true → listed.getD a false = false → doneC listed (a :: l) = 0
  | a, [], _, h => by unfold doneC; rw [List.countP_cons_of_neg (by rw [h]; exact Bool.false_ne_true)]; rfl
  | a, b :: l, hch, h => by
    have hch2 := hch
    unfold chainC at hch2
    rw [Bool.and_eq_true, Bool.and_eq_true] at hch2
    have hb : listed.getD b false = false := by
      cases hb : listed.getD b false
      · rfl
      · have := reach_closed hc 3 b a hch2.1.1 hb
        rw [h] at this; cases this
    have := chain_none hc b l hch2.2 hb
    unfold doneC at this ⊢
    rw [List.countP_cons_of_neg (by rw [h]; exact Bool.false_ne_true)]
    exact this
theorem chain_lt : ∀ (l : List Nat) (a : Nat), chainC md ops (a :: l) = true → ∀ x ∈ l, a < x
  | [], a, _, x, hx => by cases hx
  | b :: l, a, h, x, hx => by
    have h2 := h
    unfold chainC at h2
    rw [Bool.and_eq_true, Bool.and_eq_true] at h2
    have hab := of_decide_eq_true h2.1.2
    rcases List.mem_cons.1 hx with rfl | hx
    · exact hab
    · exact Nat.lt_trans hab (chain_lt l b h2.2 x hx)
/-- Number p of ms is not listed, and those ahead of it are: p are. -/
theorem chain_at {listed : Array Bool} (hc : ∀ i j, listed.getD i false = true → preds md ops i j = true → listed.getD j false = true) : ∀ (ms : List Nat) (p i : Nat), chainC md ops ms = true → ms[p]? = some i → listed.getD i false = false → (∀ j n, reachC md ops n i j = true → i ≠ j → listed.getD j false = true) → doneC listed ms = p
  | [], p, i, _, h, _, _ => by simp at h
  | [a], 0, i, hch, h, hl, _ => by
    simp at h
    subst h
    exact chain_none hc a [] hch hl
  | [a], p + 1, i, hch, h, hl, _ => by simp at h
  | a :: b :: l, 0, i, hch, h, hl, _ => by
    simp at h
    subst h
    exact chain_none hc a (b :: l) hch hl
  | a :: b :: l, p + 1, i, hch, h, hl, hd => by
    have hch2 := chain_tail hch
    have ih := chain_at hc (b :: l) p i hch2 (by simpa using h) hl hd
    have hal : listed.getD a false = true := by
      have hh := hch
      unfold chainC at hh
      rw [Bool.and_eq_true, Bool.and_eq_true] at hh
      cases p with
      | zero =>
        simp at h
        subst h
        exact hd a 3 hh.1.1 (by have := of_decide_eq_true hh.1.2; omega)
      | succ p =>
        have hbl : listed.getD b false = true := by
          cases hbl : listed.getD b false
          · have := chain_none hc b l hch2 hbl
            rw [this] at ih; cases ih
          · rfl
        exact reach_closed hc 3 b a hh.1.1 hbl
    unfold doneC at ih ⊢
    rw [List.countP_cons_of_pos (p := fun i => listed.getD i false) hal, ih]
theorem done_set {listed : Array Bool} {i : Nat} (hi : i < listed.size) : ∀ ms : List Nat, i ∉ ms → doneC (listed.setIfInBounds i true) ms = doneC listed ms
  | [], _ => rfl
  | a :: l, h => by
    have hne : i ≠ a := fun e => h (e ▸ List.mem_cons_self ..)
    have ih := done_set hi l fun hm => h (List.mem_cons_of_mem _ hm)
    unfold doneC at ih ⊢
    rw [List.countP_cons, List.countP_cons, ih, getD_set_ne false hne]
theorem done_set_in {listed : Array Bool} {i : Nat} (hi : i < listed.size) (hun : listed.getD i false = false) : ∀ ms : List Nat, ms.Pairwise (· < ·) → i ∈ ms → doneC (listed.setIfInBounds i true) ms = doneC listed ms + 1
  | [], _, h => by cases h
  | a :: l, hp, h => by
    rw [List.pairwise_cons] at hp
    rcases List.mem_cons.1 h with e | h
    · subst e
      have hnm : i ∉ l := fun hm => Nat.lt_irrefl _ (hp.1 i hm)
      have := done_set hi l hnm
      unfold doneC at this ⊢
      rw [List.countP_cons_of_pos (by simp [hi]), List.countP_cons_of_neg (by rw [hun]; exact Bool.false_ne_true), this]
    · have hne : i ≠ a := fun e => Nat.lt_irrefl _ (hp.1 a (e ▸ h))
      have ih := done_set_in hi hun l hp.2 h
      unfold doneC at ih ⊢
      rw [List.countP_cons, List.countP_cons, ih, getD_set_ne false hne]
      omega
theorem chain_pairwise : ∀ ms : List Nat, chainC md ops ms = true → ms.Pairwise (· < ·)
  | [], _ => List.Pairwise.nil
  | a :: l, h => List.pairwise_cons.2 ⟨chain_lt l a h, chain_pairwise l (chain_tail h)⟩
theorem MidC.step (ht : tidy md ops a0.tmps.size = true) {listed : Array Bool} {a : Act} {w w' : World} (h : MidC md ops Φ a0 I ms St listed a w) {i : Nat} {o : Oper} (ho : ops[i]? = some o)
    (hr : i ∈ Region.ready md ops listed) {v : Value} (hI : I w') (hkeep : ∀ j d, listed.getD j false = true → dstAt ops j = some d → factAt Φ j (a.eval (.tmp d)) w') (hv : factAt Φ i v w') (hst : St (doneC (listed.setIfInBounds i true) ms) w') : MidC md ops Φ a0 I ms St (listed.setIfInBounds i true) (a.put o.dst v) w' := by
  have hi : i < ops.size := (Array.getElem?_eq_some_iff.1 ho).1
  have hdi : dstAt ops i = o.dst := by simp [dstAt, ho]
  have hset : ∀ j, (listed.setIfInBounds i true).getD j false = true → j = i ∨ listed.getD j false = true := by
    intro j hj
    by_cases hij : i = j
    · exact .inl hij.symm
    · rw [getD_set_ne false hij] at hj; exact .inr hj
  refine ⟨by simpa using h.size, hI, by rw [defers_put]; exact h.defers, by rw [size_put]; exact h.slots, ?_, ?_, ?_, hst⟩
  · intro j k hj hp
    apply getD_set_true
    rcases hset j hj with rfl | hj'
    · obtain ⟨_, o', ho', hall⟩ := mem_ready.1 hr
      rw [ho] at ho'
      obtain rfl := Option.some.inj ho'
      unfold preds at hp
      simp only [ho] at hp
      obtain ⟨e, he, hb⟩ := Array.any_eq_true'.1 hp
      simp only [Bool.and_eq_true, beq_iff_eq] at hb
      rw [← hb.2]
      exact hall e he hb.1
    · exact h.closed j k hj' hp
  · intro d hd
    have hne : o.dst ≠ some d := by
      rw [← hdi]
      exact hd i (by simp [h.size, hi])
    rw [eval_put_other hne]
    exact h.keep d fun j hj => hd j (getD_set_true hj)
  · intro j d hj hd
    rcases hset j hj with rfl | hj'
    · rw [hdi] at hd
      rw [hd]
      have hsz := (tidy_dst ht (by rw [hdi]; exact hd)).1
      rw [eval_put_same (by rw [h.slots]; exact hsz)]
      exact hv
    · by_cases hij : j = i
      · subst hij
        rw [hdi] at hd
        rw [hd]
        have hsz := (tidy_dst ht (by rw [hdi]; exact hd)).1
        rw [eval_put_same (by rw [h.slots]; exact hsz)]
        exact hv
      · have hne : o.dst ≠ some d := by
          rw [← hdi]
          exact (tidy_dst ht hd).2 i (fun e => hij e.symm)
        rw [eval_put_other hne]
        exact hkeep j d hj' hd

theorem wpAny_midC (ht : tidy md ops a0.tmps.size = true) (hm : AllMono Φ) (hJ : StableJ J Φ) (hch : chainC md ops ms = true) (hSE : ∀ p w w', Ev w w' → St p w → St p w')
    (hops : ∀ i o, ops[i]? = some o → i ∉ ms → OpOkC P md ops Q Φ a0 I i o) (htrn : ∀ p i o, ms[p]? = some i → ops[i]? = some o → OpOkT P md ops Q Φ a0 I J St p i o)
    (hQ : ∀ a w, I w → a.defers = a0.defers → a.tmps.size = a0.tmps.size → (∀ d, nobody ops d = true → a.eval (.tmp d) = a0.eval (.tmp d)) →
      (∀ i d, dstAt ops i = some d → factAt Φ i (a.eval (.tmp d)) w) → St (doneC ((Array.range ops.size).map fun _ => true) ms) w → Q .normal a w) :
    ∀ (fuel : Nat) (listed : Array Bool) (a : Act) (w : World), unlisted listed ops.size ≤ fuel → MidC md ops Φ a0 I ms St listed a w → wpAny P md ops Q fuel listed a w := by
  have fin : ∀ (listed : Array Bool) (a : Act) (w : World), Region.ready md ops listed = [] → MidC md ops Φ a0 I ms St listed a w → Q .normal a w := by
    intro listed a w hr h
    have hall := all_listed ht h.size hr
    refine hQ a w h.inv h.defers h.slots (fun d hd => h.keep d fun i hi hid => ?_) (fun i d hd => h.done i d (hall i ?_) hd) ?_
    · have hlt : i < ops.size := by
        unfold dstAt at hid
        cases ho : ops[i]? with
        | none => simp [ho] at hid
        | some o => exact (Array.getElem?_eq_some_iff.1 ho).1
      have := (List.all_eq_true.1 hd) i (List.mem_range.2 hlt)
      simp [hid] at this
    · unfold dstAt at hd
      cases ho : ops[i]? with
      | none => simp [ho] at hd
      | some o => exact (Array.getElem?_eq_some_iff.1 ho).1
    · have : doneC listed ms = doneC ((Array.range ops.size).map fun _ => true) ms := by
        unfold doneC
        refine List.countP_congr fun i _ => ?_
        by_cases hi : i < ops.size
        · rw [hall i hi]
          simp [hi]
        · have h1 : listed.getD i false = false := by
            have : ¬ i < listed.size := by rw [h.size]; exact hi
            simp [this]
          rw [h1]
          simp [hi]
      rw [← this]
      exact h.st
  intro fuel
  induction fuel with
  | zero =>
    intro listed a w hu h
    have hr : Region.ready md ops listed = [] := by
      apply List.eq_nil_iff_forall_not_mem.2
      intro i hi
      obtain ⟨h0, o, ho, _⟩ := mem_ready.1 hi
      have hlt : i < ops.size := (Array.getElem?_eq_some_iff.1 ho).1
      have : unlisted listed ops.size = 0 := by omega
      unfold unlisted at this
      rw [List.countP_eq_zero] at this
      have h1 := this i (List.mem_range.2 hlt)
      have hl : i < listed.size := by rw [h.size]; exact hlt
      simp [hl] at h0 h1
      rw [h0] at h1
      cases h1
    exact ⟨hr, fin listed a w hr h⟩
  | succ fuel ih =>
    intro listed a w hu h
    refine ⟨fun hr => fin listed a w hr h, fun i hi => ?_⟩
    obtain ⟨h0, o, ho, hall⟩ := mem_ready.1 hi
    have hlt : i < ops.size := (Array.getElem?_eq_some_iff.1 ho).1
    have hl : i < listed.size := by rw [h.size]; exact hlt
    have hun : listed.getD i false = false := by simpa [hl] using h0
    have hcount := unlisted_set h.size hlt hun
    have hpl : ∀ j, preds md ops i j = true → listed.getD j false = true := fun j hp => by
      unfold preds at hp
      simp only [ho] at hp
      obtain ⟨e, he, hb⟩ := Array.any_eq_true'.1 hp
      simp only [Bool.and_eq_true, beq_iff_eq] at hb
      rw [← hb.2]
      exact hall e he hb.1
    have hctx : CtxC md ops Φ a0 I i a w := by
      refine ⟨h.inv, fun d hd => h.keep d fun j hj hjd => ?_, fun j d hp hd => h.done j d (hpl j hp) hd⟩
      have hltj : j < ops.size := by
        unfold dstAt at hjd
        cases hoj : ops[j]? with
        | none => simp [hoj] at hjd
        | some o => exact (Array.getElem?_eq_some_iff.1 hoj).1
      have h1 := (List.all_eq_true.1 hd) j (List.mem_range.2 hltj)
      simp only [Bool.or_eq_true, beq_iff_eq, bne_iff_ne] at h1
      rcases h1 with (h1 | h1) | h1
      · subst h1; rw [hun] at hj; cases hj
      · exact h1 hjd
      · have := h.closed j i hj h1
        rw [hun] at this; cases this
    refine wpOp_step ho fun K' hK' => ?_
    by_cases him : i ∈ ms
    · obtain ⟨p, hp⟩ := List.getElem?_of_mem him
      have hdn : doneC listed ms = p := chain_at h.closed ms p i hch hp hun fun j n hre hij => by
        cases n with
        | zero => exact hpl j hre
        | succ n =>
          unfold reachC at hre
          rw [Bool.or_eq_true] at hre
          rcases hre with hre | hre
          · exact hpl j hre
          · obtain ⟨x, _, hx⟩ := List.any_eq_true.1 hre
            rw [Bool.and_eq_true] at hx
            exact reach_closed h.closed n x j hx.2 (hpl x hx.1)
      have hst : St p w := hdn ▸ h.st
      refine htrn p i o hp ho a w hctx hst K' fun v w' hJw hI' hst' hv => hK' _ _ (ih _ _ _ (by omega) (h.step ht ho hi hI' (fun j d hj hd => factAt_J Φ hJ j _ _ _ hJw (h.done j d hj hd)) hv ?_))
      rw [done_set_in hl hun ms (chain_pairwise ms hch) him, hdn]
      exact hst'
    · refine hops i o ho him a w hctx K' fun v w' hE hI' hv => hK' _ _ (ih _ _ _ (by omega) (h.step ht ho hi hI' (fun j d hj hd => factAt_mono Φ hm j _ _ _ hE (h.done j d hj hd)) hv ?_))
      rw [done_set hl ms him]
      exact hSE _ _ _ hE h.st

/-- The region, and behind it the frame written out over its slots s. -/
theorem wp_region_slotsC {id : Nat} {w0 : World} (hmix : P.follows .mixedOrders = true) (I : World → Prop) (J : World → World → Prop) (ms : List Nat) (St : Nat → World → Prop) (Φ : List (Value → World → Prop)) (n q : Nat) (hn : a0.tmps.size = n) (ht : tidy .any ops n = true) (hm : AllMono Φ) (hJ : StableJ J Φ) (hch : chainC .any ops ms = true) (hSE : ∀ p w w', Ev w w' → St p w → St p w') (hIE : ∀ w w', Ev w w' → I w → I w')
    (hI : I w0) (hS : St 0 w0) (hq : doneC ((Array.range ops.size).map fun _ => true) ms = q)
    (hops : ∀ i o, ops[i]? = some o → 0 + i ∉ ms → OpOkC P .any ops Q Φ a0 I (0 + i) o) (htrn : ∀ p i o, ms[p]? = some i → ops[i]? = some o → OpOkT P .any ops Q Φ a0 I J St (0 + p) i o)
    (hQ : ∀ (s : Nat → Value) w, I w → (∀ d, nobody ops d = true → s d = a0.eval (.tmp d)) →
      (∀ i d, dstAt ops i = some d → factAt Φ i (s d) w) → St q w → Q .normal ⟨((List.range n).map s).toArray, a0.defers⟩ w) :
    (Code.region id ops true).wp P Q a0 w0 := by
  subst hn
  subst hq
  refine wp_region_any hmix (wpAny_midC ht hm hJ hch hSE (fun i o ho hi => by have := hops i o ho (by rwa [Nat.zero_add]); rwa [Nat.zero_add] at this) (fun p i o hp ho => by have := htrn p i o hp ho; rwa [Nat.zero_add] at this) ?_ ops.size _ _ _ ?_ ⟨by simp, hIE _ _ (Ev.drew w0) hI, rfl, rfl, ?_, fun _ _ => rfl, ?_, ?_⟩)
  · intro a w hE hd hs hold hnew hp
    rw [frame_eq hs, hd]
    exact hQ (fun d => a.eval (.tmp d)) w hE hold hnew hp
  · unfold unlisted
    exact Nat.le_trans List.countP_le_length (by simp)
  · intro i j hi
    exfalso
    by_cases hlt : i < ops.size <;> simp [hlt] at hi
  · intro i d hi
    exfalso
    by_cases hlt : i < ops.size <;> simp [hlt] at hi
  · have : doneC (Array.replicate ops.size false) ms = 0 := by
      unfold doneC
      rw [List.countP_eq_zero]
      intro i _
      by_cases hlt : i < ops.size <;> simp [hlt]
    rw [this]
    exact hSE _ _ _ (Ev.drew w0) hS
theorem opc_value {i : Nat} {o : Oper} (h : ∀ a w, CtxC md ops Φ a0 I i a w → Region.wanted o (yielded ops a.tmps) = true ∧ ∃ v, (execOp a.eval o).run P w = .ok (.value v) w ∧ factAt Φ i v w) : OpOkC P md ops Q Φ a0 I i o := by
  intro a w c K hK
  obtain ⟨hw, v, hr, hv⟩ := h a w c
  rw [if_pos hw]
  unfold Oper.wp
  rw [hr]
  exact hK v w (Ev.refl w) c.inv hv
theorem opc_makes {i : Nat} {o : Oper} (h : ∀ a w, CtxC md ops Φ a0 I i a w → Region.wanted o (yielded ops a.tmps) = true ∧ ∃ v w', (execOp a.eval o).run P w = .ok (.value v) w' ∧ Ev w w' ∧ I w' ∧ factAt Φ i v w') : OpOkC P md ops Q Φ a0 I i o := by
  intro a w c K hK
  obtain ⟨hw, v, w', hr, hE', hI', hv⟩ := h a w c
  rw [if_pos hw]
  unfold Oper.wp
  rw [hr]
  exact hK v w' hE' hI' hv
/-- A call that turns. -/
theorem opt_call {p i : Nat} {o : Oper} (h : ∀ a w, CtxC md ops Φ a0 I i a w → St p w → Region.wanted o (yielded ops a.tmps) = true ∧ ∃ f args, (execOp a.eval o).run P w = .ok (.enter f args) w ∧
    Calls P f args w fun e w' => ∃ v, e = .returned v ∧ J w w' ∧ I w' ∧ St (p + 1) w' ∧ factAt Φ i v w') : OpOkT P md ops Q Φ a0 I J St p i o := by
  intro a w c hst K hK
  obtain ⟨hw, f, args, hr, hc⟩ := h a w c hst
  rw [if_pos hw]
  unfold Oper.wp
  rw [hr]
  refine hc.mono ?_
  rintro e w' ⟨v, rfl, h1, h2, h3, h4⟩
  exact hK v w' h1 h2 h3 h4
/-- A store. -/
theorem opt_store {p i : Nat} {o : Oper} (hd : o.dst = none) (h : ∀ a w, CtxC md ops Φ a0 I i a w → St p w → Region.wanted o (yielded ops a.tmps) = true ∧ ∃ w', (execOp a.eval o).run P w = .ok .skip w' ∧ J w w' ∧ I w' ∧ St (p + 1) w' ∧ factAt Φ i undef w') : OpOkT P md ops Q Φ a0 I J St p i o := by
  intro a w c hst K hK
  obtain ⟨hw, w', hr, h1, h2, h3, h4⟩ := h a w c hst
  rw [if_pos hw]
  exact wp_of_skip hr (hK undef w' h1 h2 h3 h4)
theorem opc_cons {R : Nat → Oper → Prop} {ms : List Nat} {o0 : Oper} {l : List Oper} (k : Nat) (h0 : R k o0) (h : ∀ i o, l.toArray[i]? = some o → k + 1 + i ∉ ms → R (k + 1 + i) o) : ∀ i o, (o0 :: l).toArray[i]? = some o → k + i ∉ ms → R (k + i) o := by
  intro i o hi hlt
  cases i with
  | zero => simp at hi; subst hi; exact h0
  | succ i =>
    have := h i o (by simpa using hi) (by rwa [show k + 1 + i = k + (i + 1) by omega])
    rwa [show k + 1 + i = k + (i + 1) by omega] at this
theorem opc_turn {R : Nat → Oper → Prop} {ms : List Nat} {o0 : Oper} {l : List Oper} (k : Nat) (hk : k ∈ ms) (h : ∀ i o, l.toArray[i]? = some o → k + 1 + i ∉ ms → R (k + 1 + i) o) : ∀ i o, (o0 :: l).toArray[i]? = some o → k + i ∉ ms → R (k + i) o := by
  intro i o hi hlt
  cases i with
  | zero => exact absurd hk hlt
  | succ i =>
    have := h i o (by simpa using hi) (by rwa [show k + 1 + i = k + (i + 1) by omega])
    rwa [show k + 1 + i = k + (i + 1) by omega] at this
theorem trn_nil {R : Nat → Nat → Oper → Prop} {ops : Array Oper} (k : Nat) : ∀ p i o, ([] : List Nat)[p]? = some i → ops[i]? = some o → R (k + p) i o := by
  intro p i o h
  simp at h
theorem trn_cons {R : Nat → Nat → Oper → Prop} {ops : Array Oper} {m : Nat} {ms : List Nat} {o0 : Oper} (k : Nat) (ho : ops[m]? = some o0) (h0 : R k m o0) (h : ∀ p i o, ms[p]? = some i → ops[i]? = some o → R (k + 1 + p) i o) : ∀ p i o, (m :: ms)[p]? = some i → ops[i]? = some o → R (k + p) i o := by
  intro p i o hp hi
  cases p with
  | zero =>
    simp at hp
    subst hp
    rw [ho] at hi
    obtain rfl := Option.some.inj hi
    exact h0
  | succ p =>
    have := h p i o (by simpa using hp) hi
    rwa [show k + 1 + p = k + (p + 1) by omega] at this
theorem opc_nil {R : Nat → Oper → Prop} {ms : List Nat} (k : Nat) : ∀ i o, (([] : List Oper).toArray)[i]? = some o → k + i ∉ ms → R (k + i) o := by
  intro i o h
  simp at h
end
end Go.Proofs.Ytdfoangkjeoomaa
