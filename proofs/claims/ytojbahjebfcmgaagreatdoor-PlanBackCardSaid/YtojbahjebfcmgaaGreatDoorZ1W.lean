/-
  Texts that belong together: The rule of RegionC, where what is said of some operations (D) need not outlive the first of those that turn memory (pD), and what is said of others (B) is said only behind it: an append onto what the region itself made. What is known of several operations' values together (of those in sp, all ahead of pD) is G, of those that are listed; it ends at pD. A region that draws its order, one of whose operations (m) stores into memory that the region itself has made: all orders once. What is said of the others stays true while the world grows, and through that store (unless they stand behind it); behind the region one knows what the store left of the box whose pointer lies in slot dm. The rule of RegionC, where the last of the operations that turn memory (ml) stores into a box that the region itself made (its pointer in slot dm, given by operation jm): behind the region one knows what the box holds.
-/
import Derived.Test.YtojbahjebfcmgaaGreatDoorZ0W
namespace Go.Proofs.YtojbahjebfcmgaaGreatDoor
open Go.RowKit
set_option linter.unusedVariables false

section
variable {P : Program} {md : Region.Mode} {ops : Array Oper} {Q : Exit → Act → World → Prop} {Φ : List (Value → World → Prop)} {a0 : Act} {J : Nat → World → World → Prop} {I : World → Prop} {ms D sp : List Nat} {B : List (List Nat)} {pD : Nat} {St : Nat → World → Prop} {G : (Nat → Bool) → Act → World → Prop}
/-- What is said of operation j is there when i runs. -/
def availG (md : Region.Mode) (ops : Array Oper) (D : List Nat) (pD i j : Nat) : Bool := !(D.contains j) || (i == pD || reachC md ops 3 pD i)
/-- Those of B stand behind the turn (or are it). -/
def chkB (md : Region.Mode) (ops : Array Oper) : List (List Nat) → List Nat → Bool
  | b :: bs, m :: ms => (b.all fun j => j == m || reachC md ops 3 j m) && chkB md ops bs ms
  | _, _ => true
theorem chkB_at {md : Region.Mode} {ops : Array Oper} : ∀ (bs : List (List Nat)) (ms : List Nat), chkB md ops bs ms = true → ∀ p i, ms[p]? = some i → ((bs.getD p []).all fun j => j == i || reachC md ops 3 j i) = true
  | [], _, _, p, i, _ => by simp
  | _ :: _, [], _, p, i, h => by simp at h
  | b :: bs, m :: ms, h, 0, i, hi => by
    unfold chkB at h
    rw [Bool.and_eq_true] at h
    simp at hi
    subst hi
    exact h.1
  | b :: bs, m :: ms, h, p + 1, i, hi => by
    unfold chkB at h
    rw [Bool.and_eq_true] at h
    have := chkB_at bs ms h.2 p i (by simpa using hi)
    simpa using this
def StableG (J : Nat → World → World → Prop) (D : List Nat) (B : List (List Nat)) : Nat → List (Value → World → Prop) → Prop
  | _, [] => True
  | k, φ :: l => (D.contains k = true ∨ ∀ p, (B.getD p []).contains k = true ∨ ∀ v w w', J p w w' → φ v w → φ v w') ∧ StableG J D B (k + 1) l
theorem factAt_G {p : Nat} : ∀ (Φ : List (Value → World → Prop)) (k : Nat), StableG J D B k Φ → ∀ i, D.contains (k + i) = false → ((B.getD p []).contains (k + i) = false) → ∀ v w w', J p w w' → factAt Φ i v w → factAt Φ i v w'
  | [], _, _, i, _, _ => fun _ _ _ _ _ => trivial
  | φ :: l, k, h, 0, hd, hb => by
    rcases h.1 with h1 | h1
    · rw [Nat.add_zero, h1] at hd; cases hd
    · rcases h1 p with h2 | h2
      · rw [Nat.add_zero, h2] at hb; cases hb
      · exact h2
  | φ :: l, k, h, i + 1, hd, hb => factAt_G l (k + 1) h.2 i (by rwa [show k + 1 + i = k + (i + 1) by omega]) (by rwa [show k + 1 + i = k + (i + 1) by omega])
/-- Whoever stands in the chain stands behind its head. -/
theorem reach_pred (md : Region.Mode) (ops : Array Oper) : ∀ (n m i x j : Nat), reachC md ops n i x = true → reachC md ops m x j = true → ∃ q, reachC md ops q i j = true
  | 0, m, i, x, j, h1, h2 => by
    have hx : x < ops.size ∨ ¬ x < ops.size := Nat.lt_or_ge x ops.size |>.imp id (by omega)
    rcases hx with hx | hx
    · refine ⟨m + 1, ?_⟩
      unfold reachC
      rw [Bool.or_eq_true]
      right
      exact List.any_eq_true.2 ⟨x, List.mem_range.2 hx, by rw [Bool.and_eq_true]; exact ⟨h1, h2⟩⟩
    · exfalso
      have hno : ∀ y, preds md ops x y = false := fun y => by unfold preds; rw [Array.getElem?_eq_none (by omega)]
      cases m with
      | zero => unfold reachC at h2; rw [hno] at h2; cases h2
      | succ m =>
        unfold reachC at h2
        rw [hno, Bool.false_or] at h2
        obtain ⟨y, _, hy⟩ := List.any_eq_true.1 h2
        rw [hno] at hy
        cases hy
  | n + 1, m, i, x, j, h1, h2 => by
    unfold reachC at h1
    rw [Bool.or_eq_true] at h1
    rcases h1 with h1 | h1
    · exact reach_pred md ops 0 m i x j h1 h2
    · obtain ⟨y, hy, hyy⟩ := List.any_eq_true.1 h1
      rw [Bool.and_eq_true] at hyy
      obtain ⟨q, hq⟩ := reach_pred md ops n m y x j hyy.2 h2
      refine ⟨q + 1, ?_⟩
      unfold reachC
      rw [Bool.or_eq_true]
      right
      exact List.any_eq_true.2 ⟨y, hy, by rw [Bool.and_eq_true]; exact ⟨hyy.1, hq⟩⟩
theorem chain_head (md : Region.Mode) (ops : Array Oper) : ∀ (a : Nat) (l : List Nat), chainC md ops (a :: l) = true → ∀ i ∈ l, ∃ n, reachC md ops n i a = true
  | a, [], _, i, hi => by cases hi
  | a, b :: l, h, i, hi => by
    have h2 := h
    unfold chainC at h2
    rw [Bool.and_eq_true, Bool.and_eq_true] at h2
    rcases List.mem_cons.1 hi with e | e
    · subst e
      exact ⟨3, h2.1.1⟩
    · obtain ⟨n, hn⟩ := chain_head md ops b l h2.2 i e
      exact reach_pred md ops n 3 i b a hn h2.1.1
structure CtxG (md : Region.Mode) (ops : Array Oper) (Φ : List (Value → World → Prop)) (a0 : Act) (I : World → Prop) (D : List Nat) (pD : Nat) (i : Nat) (a : Act) (w : World) : Prop where
  inv : I w
  old : ∀ d, later md ops i d = true → a.eval (.tmp d) = a0.eval (.tmp d)
  new : ∀ j d, preds md ops i j = true → dstAt ops j = some d → availG md ops D pD i j = true → factAt Φ j (a.eval (.tmp d)) w
theorem CtxG.was {i : Nat} {a : Act} {w : World} (c : CtxG md ops Φ a0 I D pD i a w) (d : Nat) {v : Value} (h : later md ops i d = true) (hv : a0.eval (.tmp d) = v) : a.eval (.tmp d) = v := (c.old d h).trans hv
theorem CtxG.got {i : Nat} {a : Act} {w : World} (c : CtxG md ops Φ a0 I D pD i a w) (j d : Nat) {φ : Value → World → Prop} (h : preds md ops i j = true) (hd : dstAt ops j = some d) (hav : availG md ops D pD i j = true) (hφ : factAt Φ j = φ) : φ (a.eval (.tmp d)) w := hφ ▸ c.new j d h hd hav
/-- Operation i, not of ms: the world only grows. -/
def OpOkG (P : Program) (md : Region.Mode) (ops : Array Oper) (Q : Exit → Act → World → Prop) (Φ : List (Value → World → Prop)) (a0 : Act) (I : World → Prop) (D : List Nat) (pD : Nat) (i : Nat) (o : Oper) : Prop :=
  ∀ (a : Act) (w : World), CtxG md ops Φ a0 I D pD i a w → ∀ K : Act → World → Prop, (∀ v w', Ev w w' → I w' → factAt Φ i v w' → K (a.put o.dst v) w') →
    if Region.wanted o (yielded ops a.tmps) = true then Oper.wp P o a w K Q else K (a.put o.dst undef) w
/-- Operation i, number p of ms. -/
def OpOkV (P : Program) (md : Region.Mode) (ops : Array Oper) (Q : Exit → Act → World → Prop) (Φ : List (Value → World → Prop)) (a0 : Act) (I : World → Prop) (J : Nat → World → World → Prop) (St : Nat → World → Prop) (D : List Nat) (pD : Nat) (G : (Nat → Bool) → Act → World → Prop) (p i : Nat) (o : Oper) : Prop :=
  ∀ (a : Act) (w : World), CtxG md ops Φ a0 I D pD i a w → St p w → (p = 0 → ∃ L : Nat → Bool, (∀ j, preds md ops i j = true → L j = true) ∧ G L a w) → ∀ K : Act → World → Prop, (∀ v w', J p w w' → I w' → St (p + 1) w' → factAt Φ i v w' → K (a.put o.dst v) w') →
    if Region.wanted o (yielded ops a.tmps) = true then Oper.wp P o a w K Q else K (a.put o.dst undef) w
/-- Operation i, of sp. -/
def OpOkS (P : Program) (md : Region.Mode) (ops : Array Oper) (Q : Exit → Act → World → Prop) (Φ : List (Value → World → Prop)) (a0 : Act) (I : World → Prop) (D : List Nat) (pD : Nat) (G : (Nat → Bool) → Act → World → Prop) (i : Nat) (o : Oper) : Prop :=
  ∀ (a : Act) (w : World) (L : Nat → Bool), CtxG md ops Φ a0 I D pD i a w → a.tmps.size = a0.tmps.size → (∀ j, preds md ops i j = true → L j = true) → L i = false → G L a w → ∀ K : Act → World → Prop,
    (∀ v w', Ev w w' → I w' → factAt Φ i v w' → (∀ L' : Nat → Bool, L' i = true → (∀ j, j ≠ i → L' j = L j) → G L' (a.put o.dst v) w') → K (a.put o.dst v) w') →
    if Region.wanted o (yielded ops a.tmps) = true then Oper.wp P o a w K Q else K (a.put o.dst undef) w
structure MidG (md : Region.Mode) (ops : Array Oper) (Φ : List (Value → World → Prop)) (a0 : Act) (I : World → Prop) (D : List Nat) (pD : Nat) (ms : List Nat) (St : Nat → World → Prop) (G : (Nat → Bool) → Act → World → Prop) (listed : Array Bool) (a : Act) (w : World) : Prop where
  size : listed.size = ops.size
  inv : I w
  defers : a.defers = a0.defers
  slots : a.tmps.size = a0.tmps.size
  closed : ∀ i j, listed.getD i false = true → preds md ops i j = true → listed.getD j false = true
  keep : ∀ d, (∀ i, listed.getD i false = true → dstAt ops i ≠ some d) → a.eval (.tmp d) = a0.eval (.tmp d)
  done : ∀ i d, listed.getD i false = true → (D.contains i = true → listed.getD pD false = false) → dstAt ops i = some d → factAt Φ i (a.eval (.tmp d)) w
  st : St (doneC listed ms) w
  jn : listed.getD pD false = false → G (fun j => listed.getD j false) a w
theorem MidG.step (ht : tidy md ops a0.tmps.size = true) {listed : Array Bool} {a : Act} {w w' : World} (h : MidG md ops Φ a0 I D pD ms St G listed a w) {i : Nat} {o : Oper} (ho : ops[i]? = some o)
    (hr : i ∈ Region.ready md ops listed) {v : Value} (hI : I w') (hkeep : ∀ j d, listed.getD j false = true → (D.contains j = true → listed.getD pD false = false ∧ i ≠ pD) → dstAt ops j = some d → factAt Φ j (a.eval (.tmp d)) w') (hv : factAt Φ i v w') (hst : St (doneC (listed.setIfInBounds i true) ms) w') (hjn : i ≠ pD → listed.getD pD false = false → G (fun j => (listed.setIfInBounds i true).getD j false) (a.put o.dst v) w') : MidG md ops Φ a0 I D pD ms St G (listed.setIfInBounds i true) (a.put o.dst v) w' := by
  have hi : i < ops.size := (Array.getElem?_eq_some_iff.1 ho).1
  have hdi : dstAt ops i = o.dst := by simp [dstAt, ho]
  have hset : ∀ j, (listed.setIfInBounds i true).getD j false = true → j = i ∨ listed.getD j false = true := by
    intro j hj
    by_cases hij : i = j
    · exact .inl hij.symm
    · rw [getD_set_ne false hij] at hj; exact .inr hj
  refine ⟨by simpa using h.size, hI, by rw [defers_put]; exact h.defers, by rw [size_put]; exact h.slots, ?_, ?_, ?_, hst, fun h2 => ?_⟩
  · intro j k hj hp
    apply getD_set_true
    rcases hset j hj with rfl | hj'
    · obtain ⟨_, o', ho', hall⟩ := mem_ready.1 hr
      rw [ho] at ho'
      obtain rfl := Option.some.inj ho'
      unfold preds at hp
      simp only [ho] at hp
      obtain ⟨e, he, hb⟩ := Array.any_eq_true'.1 hp
      simp only [Bool.and_eq_true, beq_iff_eq] at hb
      rw [← hb.2]
      exact hall e he hb.1
    · exact h.closed j k hj' hp
  · intro d hd
    have hne : o.dst ≠ some d := by
      rw [← hdi]
      exact hd i (by simp [h.size, hi])
    rw [eval_put_other hne]
    exact h.keep d fun j hj => hd j (getD_set_true hj)
  · intro j d hj hD hd
    have hD2 : D.contains j = true → listed.getD pD false = false ∧ i ≠ pD := fun h1 => by
      have h2 := hD h1
      by_cases hip : i = pD
      · subst hip
        rw [show (listed.setIfInBounds i true).getD i false = true by simp [h.size, hi]] at h2
        cases h2
      · rw [getD_set_ne false hip] at h2
        exact ⟨h2, hip⟩
    rcases hset j hj with rfl | hj'
    · rw [hdi] at hd
      rw [hd]
      have hsz := (tidy_dst ht (by rw [hdi]; exact hd)).1
      rw [eval_put_same (by rw [h.slots]; exact hsz)]
      exact hv
    · by_cases hij : j = i
      · subst hij
        rw [hdi] at hd
        rw [hd]
        have hsz := (tidy_dst ht (by rw [hdi]; exact hd)).1
        rw [eval_put_same (by rw [h.slots]; exact hsz)]
        exact hv
      · have hne : o.dst ≠ some d := by
          rw [← hdi]
          exact (tidy_dst ht hd).2 i (fun e => hij e.symm)
        rw [eval_put_other hne]
        exact hkeep j d hj' hD2 hd
  · by_cases hip : i = pD
    · subst hip
      rw [show (listed.setIfInBounds i true).getD i false = true by simp [h.size, hi]] at h2
      cases h2
    · rw [getD_set_ne false hip] at h2
      exact hjn hip h2

theorem wpAny_midG (ht : tidy md ops a0.tmps.size = true) (hm : AllMono Φ) (hJ : StableG J D B 0 Φ) (hch : chainC md ops ms = true) (hpD : ms[0]? = some pD) (hB : chkB md ops B ms = true) (hSE : ∀ p w w', Ev w w' → St p w → St p w')
    (hsp : (sp.all fun j => reachC md ops 3 pD j) = true) (hGs : ∀ (L L' : Nat → Bool) (a a' : Act) (w w' : World), (∀ j ∈ sp, L' j = L j) → (∀ j ∈ sp, ∀ d, dstAt ops j = some d → a'.eval (.tmp d) = a.eval (.tmp d)) → Ev w w' → G L a w → G L' a' w')
    (hops : ∀ i o, ops[i]? = some o → i ∉ ms ++ sp → OpOkG P md ops Q Φ a0 I D pD i o) (hsps : ∀ i o, ops[i]? = some o → i ∈ sp → OpOkS P md ops Q Φ a0 I D pD G i o) (htrn : ∀ p i o, ms[p]? = some i → ops[i]? = some o → OpOkV P md ops Q Φ a0 I J St D pD G p i o)
    (hQ : ∀ a w, I w → a.defers = a0.defers → a.tmps.size = a0.tmps.size → (∀ d, nobody ops d = true → a.eval (.tmp d) = a0.eval (.tmp d)) →
      (∀ i d, D.contains i = false → dstAt ops i = some d → factAt Φ i (a.eval (.tmp d)) w) → St (doneC ((Array.range ops.size).map fun _ => true) ms) w → Q .normal a w) :
    ∀ (fuel : Nat) (listed : Array Bool) (a : Act) (w : World), unlisted listed ops.size ≤ fuel → MidG md ops Φ a0 I D pD ms St G listed a w → wpAny P md ops Q fuel listed a w := by
  have fin : ∀ (listed : Array Bool) (a : Act) (w : World), Region.ready md ops listed = [] → MidG md ops Φ a0 I D pD ms St G listed a w → Q .normal a w := by
    intro listed a w hr h
    have hall := all_listed ht h.size hr
    refine hQ a w h.inv h.defers h.slots (fun d hd => h.keep d fun i hi hid => ?_) (fun i d hD hd => h.done i d (hall i ?_) (fun h1 => by rw [hD] at h1; cases h1) hd) ?_
    · have hlt : i < ops.size := by
        unfold dstAt at hid
        cases ho : ops[i]? with
        | none => simp [ho] at hid
        | some o => exact (Array.getElem?_eq_some_iff.1 ho).1
      have := (List.all_eq_true.1 hd) i (List.mem_range.2 hlt)
      simp [hid] at this
    · unfold dstAt at hd
      cases ho : ops[i]? with
      | none => simp [ho] at hd
      | some o => exact (Array.getElem?_eq_some_iff.1 ho).1
    · have : doneC listed ms = doneC ((Array.range ops.size).map fun _ => true) ms := by
        unfold doneC
        refine List.countP_congr fun i _ => ?_
        by_cases hi : i < ops.size
        · rw [hall i hi]
          simp [hi]
        · have h1 : listed.getD i false = false := by
            have : ¬ i < listed.size := by rw [h.size]; exact hi
            simp [this]
          rw [h1]
          simp [hi]
      rw [← this]
      exact h.st
  intro fuel
  induction fuel with
  | zero =>
    intro listed a w hu h
    have hr : Region.ready md ops listed = [] := by
      apply List.eq_nil_iff_forall_not_mem.2
      intro i hi
      obtain ⟨h0, o, ho, _⟩ := mem_ready.1 hi
      have hlt : i < ops.size := (Array.getElem?_eq_some_iff.1 ho).1
      have : unlisted listed ops.size = 0 := by omega
      unfold unlisted at this
      rw [List.countP_eq_zero] at this
      have h1 := this i (List.mem_range.2 hlt)
      have hl : i < listed.size := by rw [h.size]; exact hlt
      simp [hl] at h0 h1
      rw [h0] at h1
      cases h1
    exact ⟨hr, fin listed a w hr h⟩
  | succ fuel ih =>
    intro listed a w hu h
    refine ⟨fun hr => fin listed a w hr h, fun i hi => ?_⟩
    obtain ⟨h0, o, ho, hall⟩ := mem_ready.1 hi
    have hlt : i < ops.size := (Array.getElem?_eq_some_iff.1 ho).1
    have hl : i < listed.size := by rw [h.size]; exact hlt
    have hun : listed.getD i false = false := by simpa [hl] using h0
    have hcount := unlisted_set h.size hlt hun
    have hpl : ∀ j, preds md ops i j = true → listed.getD j false = true := fun j hp => by
      unfold preds at hp
      simp only [ho] at hp
      obtain ⟨e, he, hb⟩ := Array.any_eq_true'.1 hp
      simp only [Bool.and_eq_true, beq_iff_eq] at hb
      rw [← hb.2]
      exact hall e he hb.1
    have hctx : CtxG md ops Φ a0 I D pD i a w := by
      refine ⟨h.inv, fun d hd => h.keep d fun j hj hjd => ?_, fun j d hp hd hav => h.done j d (hpl j hp) (fun h1 => ?_) hd⟩
      · have hltj : j < ops.size := by
          unfold dstAt at hjd
          cases hoj : ops[j]? with
          | none => simp [hoj] at hjd
          | some o => exact (Array.getElem?_eq_some_iff.1 hoj).1
        have h1 := (List.all_eq_true.1 hd) j (List.mem_range.2 hltj)
        simp only [Bool.or_eq_true, beq_iff_eq, bne_iff_ne] at h1
        rcases h1 with (h1 | h1) | h1
        · subst h1; rw [hun] at hj; cases hj
        · exact h1 hjd
        · have := h.closed j i hj h1
          rw [hun] at this; cases this
      · unfold availG at hav
        rw [h1, Bool.not_true, Bool.false_or, Bool.or_eq_true, beq_iff_eq] at hav
        cases hpl2 : listed.getD pD false
        · rfl
        · rcases hav with h2 | h2
          · rw [← h2, hun] at hpl2; cases hpl2
          · have := reach_closed h.closed 3 pD i h2 hpl2
            rw [hun] at this; cases this
    have hpre : ∀ j, (∃ n, reachC md ops n i j = true) → listed.getD j false = true := fun j ⟨n, hre⟩ => by
      cases n with
      | zero => exact hpl j hre
      | succ n =>
        unfold reachC at hre
        rw [Bool.or_eq_true] at hre
        rcases hre with hre | hre
        · exact hpl j hre
        · obtain ⟨x, _, hx⟩ := List.any_eq_true.1 hre
          rw [Bool.and_eq_true] at hx
          exact reach_closed h.closed n x j hx.2 (hpl x hx.1)
    refine wpOp_step ho fun K' hK' => ?_
    by_cases him : i ∈ ms
    · obtain ⟨p, hp⟩ := List.getElem?_of_mem him
      have hdn : doneC listed ms = p := chain_at h.closed ms p i hch hp hun fun j n hre hij => by
        cases n with
        | zero => exact hpl j hre
        | succ n =>
          unfold reachC at hre
          rw [Bool.or_eq_true] at hre
          rcases hre with hre | hre
          · exact hpl j hre
          · obtain ⟨x, _, hx⟩ := List.any_eq_true.1 hre
            rw [Bool.and_eq_true] at hx
            exact reach_closed h.closed n x j hx.2 (hpl x hx.1)
      have hst : St p w := hdn ▸ h.st
      have hp0 : p = 0 → i = pD := fun e => by
        subst e
        rw [hpD] at hp
        exact (Option.some.inj hp).symm
      have hlp : ¬ p = 0 → listed.getD pD false = true := fun e => by
        cases hms : ms with
        | nil => rw [hms] at him; cases him
        | cons m0 ml0 =>
          rw [hms] at hpD hp hch
          simp at hpD
          subst hpD
          cases p with
          | zero => exact absurd rfl e
          | succ p =>
            have hil : i ∈ ml0 := List.mem_of_getElem? (by simpa using hp)
            exact hpre m0 (chain_head md ops m0 ml0 hch i hil)
      refine htrn p i o hp ho a w hctx hst (fun e => ⟨_, hpl, h.jn (by rw [← hp0 e]; exact hun)⟩) K' fun v w' hJw hI' hst' hv => hK' _ _ (ih _ _ _ (by omega) (h.step ht ho hi hI' (fun j d hj hD hd => by
        have hDn : D.contains j = false := by
          cases hDj : D.contains j
          · rfl
          · obtain ⟨h1, h2⟩ := hD hDj
            exfalso
            cases hms : ms with
            | nil => rw [hms] at him; cases him
            | cons m0 ml0 =>
              rw [hms] at hpD him hch
              simp at hpD
              subst hpD
              rcases List.mem_cons.1 him with e | e
              · exact h2 e
              · obtain ⟨k, hk⟩ := List.getElem?_of_mem e
                have hup := chain_head md ops m0 ml0 hch i e
                have := hpre m0 hup
                rw [h1] at this; cases this
        have hBn : (B.getD p []).contains j = false := by
          cases hBj : (B.getD p []).contains j
          · rfl
          · exfalso
            have h1 := List.all_eq_true.1 (chkB_at B ms hB p i hp) j (by simpa using hBj)
            rw [Bool.or_eq_true, beq_iff_eq] at h1
            rcases h1 with h1 | h1
            · subst h1
              rw [hun] at hj; cases hj
            · have := reach_closed h.closed 3 j _ h1 hj
              rw [hun] at this; cases this
        exact factAt_G (p := p) Φ 0 hJ j (by rwa [Nat.zero_add]) (by rwa [Nat.zero_add]) _ _ _ hJw (h.done j d hj (fun h3 => by rw [hDn] at h3; cases h3) hd)) hv ?_ fun hne hlf => by
          by_cases e : p = 0
          · exact absurd (hp0 e) hne
          · rw [hlp e] at hlf; cases hlf))
      rw [done_set_in hl hun ms (chain_pairwise ms hch) him, hdn]
      exact hst'
    · by_cases his : i ∈ sp
      · have hlf : listed.getD pD false = false := by
          cases hpl2 : listed.getD pD false
          · rfl
          · have := reach_closed h.closed 3 pD i (List.all_eq_true.1 hsp i his) hpl2
            rw [hun] at this; cases this
        refine hsps i o ho his a w _ hctx h.slots hpl hun (h.jn hlf) K' fun v w' hE hI' hv hG => hK' _ _ (ih _ _ _ (by omega) (h.step ht ho hi hI' (fun j d hj hD hd => factAt_mono Φ hm j _ _ _ hE (h.done j d hj (fun h3 => (hD h3).1) hd)) hv ?_ fun _ _ => hG _ ?_ ?_))
        · rw [done_set hl ms him]
          exact hSE _ _ _ hE h.st
        · simp [hl]
        · intro j hj
          exact getD_set_ne false (fun e => hj e.symm)
      · refine hops i o ho (fun hm => (List.mem_append.1 hm).elim him his) a w hctx K' fun v w' hE hI' hv => hK' _ _ (ih _ _ _ (by omega) (h.step ht ho hi hI' (fun j d hj hD hd => factAt_mono Φ hm j _ _ _ hE (h.done j d hj (fun h3 => (hD h3).1) hd)) hv ?_ fun _ hlf => ?_))
        · rw [done_set hl ms him]
          exact hSE _ _ _ hE h.st
        · refine hGs _ _ a _ w w' (fun j hj => getD_set_ne false (fun e => his (e ▸ hj))) (fun j hj d hd => eval_put_other fun e => ?_) hE (h.jn hlf)
          have hdi : dstAt ops i = some d := by simp [dstAt, ho, e]
          exact (tidy_dst ht hdi).2 j (fun e2 => his (e2 ▸ hj)) hd

/-- The region, and behind it the frame written out over its slots s. -/
theorem wp_region_slotsG {id : Nat} {w0 : World} (hmix : P.follows .mixedOrders = true) (I : World → Prop) (J : Nat → World → World → Prop) (ms : List Nat) (St : Nat → World → Prop) (D : List Nat) (B : List (List Nat)) (pD : Nat) (Φ : List (Value → World → Prop)) (n q : Nat) (hn : a0.tmps.size = n) (ht : tidy .any ops n = true) (hm : AllMono Φ) (hJ : StableG J D B 0 Φ) (hch : chainC .any ops ms = true) (hpD : ms[0]? = some pD) (hB : chkB .any ops B ms = true) (hSE : ∀ p w w', Ev w w' → St p w → St p w') (hIE : ∀ w w', Ev w w' → I w → I w')
    (hI : I w0) (hS : St 0 w0) (hq : doneC ((Array.range ops.size).map fun _ => true) ms = q)
    (G : (Nat → Bool) → Act → World → Prop) (sp : List Nat) (hsp : (sp.all fun j => reachC .any ops 3 pD j) = true) (hGs : ∀ (L L' : Nat → Bool) (a a' : Act) (w w' : World), (∀ j ∈ sp, L' j = L j) → (∀ j ∈ sp, ∀ d, dstAt ops j = some d → a'.eval (.tmp d) = a.eval (.tmp d)) → Ev w w' → G L a w → G L' a' w') (hG0 : ∀ L : Nat → Bool, (∀ j, L j = false) → G L a0 w0)
    (hops : ∀ i o, ops[i]? = some o → 0 + i ∉ ms ++ sp → OpOkG P .any ops Q Φ a0 I D pD (0 + i) o) (hsps : ∀ (p i : Nat) (o : Oper), sp[p]? = some i → ops[i]? = some o → OpOkS P .any ops Q Φ a0 I D pD G i o) (htrn : ∀ p i o, ms[p]? = some i → ops[i]? = some o → OpOkV P .any ops Q Φ a0 I J St D pD G (0 + p) i o)
    (hQ : ∀ (s : Nat → Value) w, I w → (∀ d, nobody ops d = true → s d = a0.eval (.tmp d)) →
      (∀ i d, D.contains i = false → dstAt ops i = some d → factAt Φ i (s d) w) → St q w → Q .normal ⟨((List.range n).map s).toArray, a0.defers⟩ w) :
    (Code.region id ops true).wp P Q a0 w0 := by
  subst hn
  subst hq
  refine wp_region_any hmix (wpAny_midG ht hm hJ hch hpD hB hSE hsp hGs (fun i o ho hi => by have := hops i o ho (by rwa [Nat.zero_add]); rwa [Nat.zero_add] at this) (fun i o ho hi => by obtain ⟨p, hp⟩ := List.getElem?_of_mem hi; exact hsps p i o hp ho) (fun p i o hp ho => by have := htrn p i o hp ho; rwa [Nat.zero_add] at this) ?_ ops.size _ _ _ ?_ ⟨by simp, hIE _ _ (Ev.drew w0) hI, rfl, rfl, ?_, fun _ _ => rfl, ?_, ?_, fun _ => hGs _ _ a0 a0 w0 w0.drew (fun j _ => rfl) (fun _ _ _ _ => rfl) (Ev.drew w0) (hG0 _ fun j => ?_)⟩)
  · intro a w hE hd hs hold hnew hp
    rw [frame_eq hs, hd]
    exact hQ (fun d => a.eval (.tmp d)) w hE hold hnew hp
  · unfold unlisted
    exact Nat.le_trans List.countP_le_length (by simp)
  · intro i j hi
    exfalso
    by_cases hlt : i < ops.size <;> simp [hlt] at hi
  · intro i d hi _
    exfalso
    by_cases hlt : i < ops.size <;> simp [hlt] at hi
  · have : doneC (Array.replicate ops.size false) ms = 0 := by
      unfold doneC
      rw [List.countP_eq_zero]
      intro i _
      by_cases hlt : i < ops.size <;> simp [hlt]
    rw [this]
    exact hSE _ _ _ (Ev.drew w0) hS
  · by_cases hlt : j < ops.size <;> simp [hlt]
theorem opg_value {i : Nat} {o : Oper} (h : ∀ a w, CtxG md ops Φ a0 I D pD i a w → Region.wanted o (yielded ops a.tmps) = true ∧ ∃ v, (execOp a.eval o).run P w = .ok (.value v) w ∧ factAt Φ i v w) : OpOkG P md ops Q Φ a0 I D pD i o := by
  intro a w c K hK
  obtain ⟨hw, v, hr, hv⟩ := h a w c
  rw [if_pos hw]
  unfold Oper.wp
  rw [hr]
  exact hK v w (Ev.refl w) c.inv hv
theorem opg_makes {i : Nat} {o : Oper} (h : ∀ a w, CtxG md ops Φ a0 I D pD i a w → Region.wanted o (yielded ops a.tmps) = true ∧ ∃ v w', (execOp a.eval o).run P w = .ok (.value v) w' ∧ Ev w w' ∧ I w' ∧ factAt Φ i v w') : OpOkG P md ops Q Φ a0 I D pD i o := by
  intro a w c K hK
  obtain ⟨hw, v, w', hr, hE', hI', hv⟩ := h a w c
  rw [if_pos hw]
  unfold Oper.wp
  rw [hr]
  exact hK v w' hE' hI' hv
/-- Of sp: a builtin or a literal. -/
theorem ops_makes {i : Nat} {o : Oper} (h : ∀ a w (L : Nat → Bool), CtxG md ops Φ a0 I D pD i a w → a.tmps.size = a0.tmps.size → (∀ j, preds md ops i j = true → L j = true) → L i = false → G L a w → Region.wanted o (yielded ops a.tmps) = true ∧ ∃ v w', (execOp a.eval o).run P w = .ok (.value v) w' ∧ Ev w w' ∧ I w' ∧ factAt Φ i v w' ∧ ∀ L' : Nat → Bool, L' i = true → (∀ j, j ≠ i → L' j = L j) → G L' (a.put o.dst v) w') : OpOkS P md ops Q Φ a0 I D pD G i o := by
  intro a w L c hs hp hu hg K hK
  obtain ⟨hw, v, w', hr, h1, h2, h3, h4⟩ := h a w L c hs hp hu hg
  rw [if_pos hw]
  unfold Oper.wp
  rw [hr]
  exact hK v w' h1 h2 h3 h4
/-- Of sp: a call. -/
theorem ops_call {i : Nat} {o : Oper} (h : ∀ a w (L : Nat → Bool), CtxG md ops Φ a0 I D pD i a w → a.tmps.size = a0.tmps.size → (∀ j, preds md ops i j = true → L j = true) → L i = false → G L a w → Region.wanted o (yielded ops a.tmps) = true ∧ ∃ f args, (execOp a.eval o).run P w = .ok (.enter f args) w ∧
    Calls P f args w fun e w' => ∃ v, e = .returned v ∧ Ev w w' ∧ I w' ∧ factAt Φ i v w' ∧ ∀ L' : Nat → Bool, L' i = true → (∀ j, j ≠ i → L' j = L j) → G L' (a.put o.dst v) w') : OpOkS P md ops Q Φ a0 I D pD G i o := by
  intro a w L c hs hp hu hg K hK
  obtain ⟨hw, f, args, hr, hc⟩ := h a w L c hs hp hu hg
  rw [if_pos hw]
  unfold Oper.wp
  rw [hr]
  refine hc.mono ?_
  rintro e w' ⟨v, rfl, h1, h2, h3, h4⟩
  exact hK v w' h1 h2 h3 h4
/-- A call: the world grows. -/
theorem opg_call {i : Nat} {o : Oper} (h : ∀ a w, CtxG md ops Φ a0 I D pD i a w → Region.wanted o (yielded ops a.tmps) = true ∧ ∃ f args, (execOp a.eval o).run P w = .ok (.enter f args) w ∧
    Calls P f args w fun e w' => ∃ v, e = .returned v ∧ Ev w w' ∧ I w' ∧ factAt Φ i v w') : OpOkG P md ops Q Φ a0 I D pD i o := by
  intro a w c K hK
  obtain ⟨hw, f, args, hr, hc⟩ := h a w c
  rw [if_pos hw]
  unfold Oper.wp
  rw [hr]
  refine hc.mono ?_
  rintro e w' ⟨v, rfl, h1, h2, h3⟩
  exact hK v w' h1 h2 h3
/-- A builtin that turns. -/
theorem opv_makes {p i : Nat} {o : Oper} (h : ∀ a w, CtxG md ops Φ a0 I D pD i a w → St p w → (p = 0 → ∃ L : Nat → Bool, (∀ j, preds md ops i j = true → L j = true) ∧ G L a w) → Region.wanted o (yielded ops a.tmps) = true ∧ ∃ v w', (execOp a.eval o).run P w = .ok (.value v) w' ∧ J p w w' ∧ I w' ∧ St (p + 1) w' ∧ factAt Φ i v w') : OpOkV P md ops Q Φ a0 I J St D pD G p i o := by
  intro a w c hst hg K hK
  obtain ⟨hw, v, w', hr, h1, h2, h3, h4⟩ := h a w c hst hg
  rw [if_pos hw]
  unfold Oper.wp
  rw [hr]
  exact hK v w' h1 h2 h3 h4
theorem sps_nil {R : Nat → Oper → Prop} {ops : Array Oper} : ∀ (p i : Nat) (o : Oper), ([] : List Nat)[p]? = some i → ops[i]? = some o → R i o := by
  intro p i o h
  simp at h
theorem sps_cons {R : Nat → Oper → Prop} {ops : Array Oper} {m : Nat} {sp : List Nat} {o0 : Oper} (ho : ops[m]? = some o0) (h0 : R m o0) (h : ∀ (p i : Nat) (o : Oper), sp[p]? = some i → ops[i]? = some o → R i o) : ∀ (p i : Nat) (o : Oper), (m :: sp)[p]? = some i → ops[i]? = some o → R i o := by
  intro p i o hp hi
  cases p with
  | zero =>
    simp at hp
    subst hp
    rw [ho] at hi
    obtain rfl := Option.some.inj hi
    exact h0
  | succ p => exact h p i o (by simpa using hp) hi
end
end Go.Proofs.YtojbahjebfcmgaaGreatDoor

namespace Go.Proofs.YtojbahjebfcmgaaGreatDoor
open Go.RowKit
set_option linter.unusedVariables false

section
variable {P : Program} {md : Region.Mode} {ops : Array Oper} {Q : Exit → Act → World → Prop} {Φ : List (Value → World → Prop)} {a0 : Act} {w0 : World} {J : World → World → Prop} {m dm : Nat} {Ψ : Value → World → Prop}

def AllMonoN (md : Region.Mode) (ops : Array Oper) (J : World → World → Prop) (m : Nat) : Nat → List (Value → World → Prop) → Prop
  | _, [] => True
  | k, φ :: l => (k = m ∨ preds md ops k m = true ∨ ∀ v w w', J w w' → φ v w → φ v w') ∧ AllMonoN md ops J m (k + 1) l
theorem factAt_monoN : ∀ (Φ : List (Value → World → Prop)) (k : Nat), AllMonoN md ops J m k Φ → ∀ i, k + i ≠ m → preds md ops (k + i) m = false → ∀ v w w', J w w' → factAt Φ i v w → factAt Φ i v w'
  | [], _, _, i, _, _ => fun _ _ _ _ _ => trivial
  | φ :: l, k, h, 0, hn, hp => by
    rcases h.1 with h1 | h1 | h1
    · exact absurd h1 hn
    · rw [Nat.add_zero, h1] at hp; cases hp
    · exact h1
  | φ :: l, k, h, i + 1, hn, hp => factAt_monoN l (k + 1) h.2 i (by omega) (by rwa [show k + 1 + i = k + (i + 1) by omega])
theorem Mid.store (hmn : AllMonoN md ops J m 0 Φ) {listed : Array Bool} {a : Act} {w w' : World} (h : Mid md ops Φ a0 w0 listed a w) {o : Oper} (ho : ops[m]? = some o) (hd0 : o.dst = none)
    (hr : m ∈ Region.ready md ops listed) (hun : listed.getD m false = false) (hJ : J w w') (hE : Ev w0 w') : Mid md ops Φ a0 w0 (listed.setIfInBounds m true) a w' := by
  have hi : m < ops.size := (Array.getElem?_eq_some_iff.1 ho).1
  have hdi : dstAt ops m = none := by simp [dstAt, ho, hd0]
  have hset : ∀ j, (listed.setIfInBounds m true).getD j false = true → j = m ∨ listed.getD j false = true := by
    intro j hj
    by_cases hij : m = j
    · exact .inl hij.symm
    · rw [getD_set_ne false hij] at hj; exact .inr hj
  refine ⟨by simpa using h.size, hE, h.defers, h.slots, ?_, ?_, ?_⟩
  · intro j k hj hp
    apply getD_set_true
    rcases hset j hj with rfl | hj'
    · obtain ⟨_, o', ho', hall⟩ := mem_ready.1 hr
      rw [ho] at ho'
      obtain rfl := Option.some.inj ho'
      unfold preds at hp
      simp only [ho] at hp
      obtain ⟨e, he, hb⟩ := Array.any_eq_true'.1 hp
      simp only [Bool.and_eq_true, beq_iff_eq] at hb
      rw [← hb.2]
      exact hall e he hb.1
    · exact h.closed j k hj' hp
  · intro d hd
    exact h.keep d fun j hj => hd j (getD_set_true hj)
  · intro j d hj hd
    rcases hset j hj with rfl | hj'
    · rw [hdi] at hd; cases hd
    · have hjm : j ≠ m := by rintro rfl; rw [hdi] at hd; cases hd
      refine factAt_monoN Φ 0 hmn j (by omega) ?_ _ _ _ hJ (h.done j d hj' hd)
      rw [Nat.zero_add]
      cases hpm : preds md ops j m
      · rfl
      · have := h.closed j m hj' hpm
        rw [hun] at this; cases this

end
end Go.Proofs.YtojbahjebfcmgaaGreatDoor

namespace Go.Proofs.YtojbahjebfcmgaaGreatDoor
open Go.RowKit
set_option linter.unusedVariables false

section
variable {P : Program} {md : Region.Mode} {ops : Array Oper} {Q : Exit → Act → World → Prop} {Φ : List (Value → World → Prop)} {a0 : Act} {J : World → World → Prop} {I : World → Prop} {ms : List Nat} {St : Nat → World → Prop} {ml jm dm q : Nat} {Ψ : Value → World → Prop}
/-- The last operation of the chain. -/
def StoreP (P : Program) (md : Region.Mode) (ops : Array Oper) (Q : Exit → Act → World → Prop) (Φ : List (Value → World → Prop)) (a0 : Act) (I : World → Prop) (J : World → World → Prop) (St : Nat → World → Prop) (q dm : Nat) (Ψ : Value → World → Prop) (i : Nat) (o : Oper) : Prop :=
  o.dst = none ∧ ∀ (a : Act) (w : World), CtxC md ops Φ a0 I i a w → St q w → Region.wanted o (yielded ops a.tmps) = true ∧ ∃ w', (execOp a.eval o).run P w = .ok .skip w' ∧ J w w' ∧ I w' ∧ St (q + 1) w' ∧ factAt Φ i undef w' ∧ Ψ (a.eval (.tmp dm)) w'
/-- Of a chain, what stands ahead of what is listed is listed. -/
theorem chain_down {listed : Array Bool} (hc : ∀ i j, listed.getD i false = true → preds md ops i j = true → listed.getD j false = true) : ∀ (ms : List Nat), chainC md ops ms = true → ∀ (k x q y : Nat), ms[k]? = some x → ms[q]? = some y → k ≤ q → listed.getD y false = true → listed.getD x false = true
  | [], _, k, x, q, y, h, _, _, _ => by simp at h
  | [a], _, k, x, q, y, h1, h2, _, hy => by
    have e1 : x = a := by cases k <;> simp at h1; exact h1.symm
    have e2 : y = a := by cases q <;> simp at h2; exact h2.symm
    rw [e1, ← e2]; exact hy
  | a :: b :: l, hch, 0, x, 0, y, h1, h2, _, hy => by
    simp at h1 h2
    rw [← h1, h2]; exact hy
  | a :: b :: l, hch, 0, x, q + 1, y, h1, h2, _, hy => by
    simp at h1
    subst h1
    have hb := chain_down hc (b :: l) (chain_tail hch) 0 b q y rfl (by simpa using h2) (Nat.zero_le _) hy
    unfold chainC at hch
    rw [Bool.and_eq_true, Bool.and_eq_true] at hch
    exact reach_closed hc 3 b a hch.1.1 hb
  | a :: b :: l, hch, k + 1, x, 0, y, h1, h2, hle, hy => by omega
  | a :: b :: l, hch, k + 1, x, q + 1, y, h1, h2, hle, hy => chain_down hc (b :: l) (chain_tail hch) k x q y (by simpa using h1) (by simpa using h2) (by omega) hy
theorem wpAny_midP (ht : tidy md ops a0.tmps.size = true) (hm : AllMono Φ) (hJ : StableJ J Φ) (hch : chainC md ops ms = true) (hSE : ∀ p w w', Ev w w' → St p w → St p w')
    (hops : ∀ i o, ops[i]? = some o → i ∉ ms → OpOkC P md ops Q Φ a0 I i o) (htrn : ∀ p i o, ms[p]? = some i → i ≠ ml → ops[i]? = some o → OpOkT P md ops Q Φ a0 I J St p i o) (hΨ : Mono Ψ) (hmq : ms[q]? = some ml) (hlast : q + 1 = ms.length) {om : Oper} (hom : ops[ml]? = some om) (hjm : preds md ops ml jm = true) (hjd : dstAt ops jm = some dm) (hst : StoreP P md ops Q Φ a0 I J St q dm Ψ ml om)
    (hQ : ∀ a w, I w → a.defers = a0.defers → a.tmps.size = a0.tmps.size → (∀ d, nobody ops d = true → a.eval (.tmp d) = a0.eval (.tmp d)) →
      (∀ i d, dstAt ops i = some d → factAt Φ i (a.eval (.tmp d)) w) → St (doneC ((Array.range ops.size).map fun _ => true) ms) w → Ψ (a.eval (.tmp dm)) w → Q .normal a w) :
    ∀ (fuel : Nat) (listed : Array Bool) (a : Act) (w : World), unlisted listed ops.size ≤ fuel → MidC md ops Φ a0 I ms St listed a w → (listed.getD ml false = true → Ψ (a.eval (.tmp dm)) w) → wpAny P md ops Q fuel listed a w := by
  have hmlt : ml < ops.size := (Array.getElem?_eq_some_iff.1 hom).1
  have fin : ∀ (listed : Array Bool) (a : Act) (w : World), Region.ready md ops listed = [] → MidC md ops Φ a0 I ms St listed a w → (listed.getD ml false = true → Ψ (a.eval (.tmp dm)) w) → Q .normal a w := by
    intro listed a w hr h hpost
    have hall := all_listed ht h.size hr
    refine hQ a w h.inv h.defers h.slots (fun d hd => h.keep d fun i hi hid => ?_) (fun i d hd => h.done i d (hall i ?_) hd) ?_ (hpost (hall ml hmlt))
    · have hlt : i < ops.size := by
        unfold dstAt at hid
        cases ho : ops[i]? with
        | none => simp [ho] at hid
        | some o => exact (Array.getElem?_eq_some_iff.1 ho).1
      have := (List.all_eq_true.1 hd) i (List.mem_range.2 hlt)
      simp [hid] at this
    · unfold dstAt at hd
      cases ho : ops[i]? with
      | none => simp [ho] at hd
      | some o => exact (Array.getElem?_eq_some_iff.1 ho).1
    · have : doneC listed ms = doneC ((Array.range ops.size).map fun _ => true) ms := by
        unfold doneC
        refine List.countP_congr fun i _ => ?_
        by_cases hi : i < ops.size
        · rw [hall i hi]
          simp [hi]
        · have h1 : listed.getD i false = false := by
            have : ¬ i < listed.size := by rw [h.size]; exact hi
            simp [this]
          rw [h1]
          simp [hi]
      rw [← this]
      exact h.st
  intro fuel
  induction fuel with
  | zero =>
    intro listed a w hu h hpost
    have hr : Region.ready md ops listed = [] := by
      apply List.eq_nil_iff_forall_not_mem.2
      intro i hi
      obtain ⟨h0, o, ho, _⟩ := mem_ready.1 hi
      have hlt : i < ops.size := (Array.getElem?_eq_some_iff.1 ho).1
      have : unlisted listed ops.size = 0 := by omega
      unfold unlisted at this
      rw [List.countP_eq_zero] at this
      have h1 := this i (List.mem_range.2 hlt)
      have hl : i < listed.size := by rw [h.size]; exact hlt
      simp [hl] at h0 h1
      rw [h0] at h1
      cases h1
    exact ⟨hr, fin listed a w hr h hpost⟩
  | succ fuel ih =>
    intro listed a w hu h hpost
    refine ⟨fun hr => fin listed a w hr h hpost, fun i hi => ?_⟩
    obtain ⟨h0, o, ho, hall⟩ := mem_ready.1 hi
    have hlt : i < ops.size := (Array.getElem?_eq_some_iff.1 ho).1
    have hl : i < listed.size := by rw [h.size]; exact hlt
    have hun : listed.getD i false = false := by simpa [hl] using h0
    have hcount := unlisted_set h.size hlt hun
    have hpl : ∀ j, preds md ops i j = true → listed.getD j false = true := fun j hp => by
      unfold preds at hp
      simp only [ho] at hp
      obtain ⟨e, he, hb⟩ := Array.any_eq_true'.1 hp
      simp only [Bool.and_eq_true, beq_iff_eq] at hb
      rw [← hb.2]
      exact hall e he hb.1
    have hctx : CtxC md ops Φ a0 I i a w := by
      refine ⟨h.inv, fun d hd => h.keep d fun j hj hjd => ?_, fun j d hp hd => h.done j d (hpl j hp) hd⟩
      have hltj : j < ops.size := by
        unfold dstAt at hjd
        cases hoj : ops[j]? with
        | none => simp [hoj] at hjd
        | some o => exact (Array.getElem?_eq_some_iff.1 hoj).1
      have h1 := (List.all_eq_true.1 hd) j (List.mem_range.2 hltj)
      simp only [Bool.or_eq_true, beq_iff_eq, bne_iff_ne] at h1
      rcases h1 with (h1 | h1) | h1
      · subst h1; rw [hun] at hj; cases hj
      · exact h1 hjd
      · have := h.closed j i hj h1
        rw [hun] at this; cases this
    refine wpOp_step ho fun K' hK' => ?_
    have hkeepP : ∀ (o : Oper) (v : Value) (w' : World), ops[i]? = some o → i ≠ ml → (∀ v0, Ψ v0 w → Ψ v0 w') → (listed.setIfInBounds i true).getD ml false = true → Ψ ((a.put o.dst v).eval (.tmp dm)) w' := by
      intro o v w' ho him hmono hlm
      rw [getD_set_ne false him] at hlm
      have hp := hpost hlm
      have hjl := h.closed ml jm hlm hjm
      have hij : i ≠ jm := by rintro rfl; rw [hun] at hjl; cases hjl
      have hne : o.dst ≠ some dm := by
        have := (tidy_dst ht hjd).2 i hij
        simpa [dstAt, ho] using this
      rw [eval_put_other hne]
      exact hmono _ hp
    by_cases him : i ∈ ms
    · obtain ⟨p, hp⟩ := List.getElem?_of_mem him
      have hdn : doneC listed ms = p := chain_at h.closed ms p i hch hp hun fun j n hre hij => by
        cases n with
        | zero => exact hpl j hre
        | succ n =>
          unfold reachC at hre
          rw [Bool.or_eq_true] at hre
          rcases hre with hre | hre
          · exact hpl j hre
          · obtain ⟨x, _, hx⟩ := List.any_eq_true.1 hre
            rw [Bool.and_eq_true] at hx
            exact reach_closed h.closed n x j hx.2 (hpl x hx.1)
      have hst2 : St p w := hdn ▸ h.st
      have hpw := chain_pairwise ms hch
      by_cases hil : i = ml
      · subst hil
        have hpq : p = q := by
          obtain ⟨h1, e1⟩ := List.getElem?_eq_some_iff.1 hp
          obtain ⟨h2, e2⟩ := List.getElem?_eq_some_iff.1 hmq
          rcases Nat.lt_trichotomy p q with h3 | h3 | h3
          · have := (List.pairwise_iff_getElem.1 hpw) p q h1 h2 h3
            omega
          · exact h3
          · have := (List.pairwise_iff_getElem.1 hpw) q p h2 h1 h3
            omega
        subst hpq
        rw [hom] at ho
        obtain rfl := Option.some.inj ho
        obtain ⟨hw, w', hrun, hJw, hI', hst', hv, hps⟩ := hst.2 a w hctx hst2
        rw [if_pos hw]
        refine wp_of_skip hrun ?_
        refine hK' _ _ (ih _ _ _ (by omega) (h.step ht hom hi hI' (fun j d hj hd => factAt_J Φ hJ j _ _ _ hJw (h.done j d hj hd)) hv ?_) fun _ => ?_)
        · rw [done_set_in hl hun ms hpw him, hdn]
          exact hst'
        · have hput : a.put om.dst undef = a := by rw [hst.1]; rfl
          rw [hput]
          exact hps
      · have hpl2 : listed.getD ml false = false := by
          cases hlm : listed.getD ml false
          · rfl
          · exfalso
            have hall2 : doneC listed ms = ms.length := by
              unfold doneC
              rw [List.countP_eq_length]
              intro x hx
              obtain ⟨k, hk⟩ := List.getElem?_of_mem hx
              exact chain_down h.closed ms hch k x q ml hk hmq (by have := (List.getElem?_eq_some_iff.1 hk).1; omega) hlm
            have h1 := (List.getElem?_eq_some_iff.1 hp).1
            omega
        refine htrn p i o hp hil ho a w hctx hst2 K' fun v w' hJw hI' hst' hv => hK' _ _ (ih _ _ _ (by omega) (h.step ht ho hi hI' (fun j d hj hd => factAt_J Φ hJ j _ _ _ hJw (h.done j d hj hd)) hv ?_) fun hlm => ?_)
        · rw [done_set_in hl hun ms hpw him, hdn]
          exact hst'
        · rw [getD_set_ne false hil, hpl2] at hlm
          cases hlm
    · have hil : i ≠ ml := by rintro rfl; exact him (List.mem_of_getElem? hmq)
      refine hops i o ho him a w hctx K' fun v w' hE hI' hv => hK' _ _ (ih _ _ _ (by omega) (h.step ht ho hi hI' (fun j d hj hd => factAt_mono Φ hm j _ _ _ hE (h.done j d hj hd)) hv ?_) (hkeepP o v w' ho hil fun v0 h0 => hΨ _ _ _ hE h0))
      rw [done_set hl ms him]
      exact hSE _ _ _ hE h.st

/-- The region, and behind it the frame written out over its slots s. -/
theorem wp_region_slotsP {id : Nat} {w0 : World} (hmix : P.follows .mixedOrders = true) (I : World → Prop) (J : World → World → Prop) (ms : List Nat) (St : Nat → World → Prop) (ml jm dm : Nat) (Ψ : Value → World → Prop) (Φ : List (Value → World → Prop)) (n q q1 : Nat) (hn : a0.tmps.size = n) (ht : tidy .any ops n = true) (hm : AllMono Φ) (hJ : StableJ J Φ) (hch : chainC .any ops ms = true) (hSE : ∀ p w w', Ev w w' → St p w → St p w') (hIE : ∀ w w', Ev w w' → I w → I w')
    (hI : I w0) (hS : St 0 w0) (hq : doneC ((Array.range ops.size).map fun _ => true) ms = q) (hΨ : Mono Ψ) (hmq : ms[q1]? = some ml) (hlast : q1 + 1 = ms.length) (om : Oper) (hom : ops[ml]? = some om) (hjm : preds .any ops ml jm = true) (hjd : dstAt ops jm = some dm)
    (hops : ∀ i o, ops[i]? = some o → 0 + i ∉ ms → OpOkC P .any ops Q Φ a0 I (0 + i) o) (htrn : ∀ p i o, ms[p]? = some i → i ≠ ml → ops[i]? = some o → OpOkT P .any ops Q Φ a0 I J St (0 + p) i o) (hst : StoreP P .any ops Q Φ a0 I J St q1 dm Ψ ml om)
    (hQ : ∀ (s : Nat → Value) w, I w → (∀ d, nobody ops d = true → s d = a0.eval (.tmp d)) →
      (∀ i d, dstAt ops i = some d → factAt Φ i (s d) w) → St q w → Ψ (s dm) w → Q .normal ⟨((List.range n).map s).toArray, a0.defers⟩ w) :
    (Code.region id ops true).wp P Q a0 w0 := by
  subst hn
  subst hq
  refine wp_region_any hmix (wpAny_midP ht hm hJ hch hSE (fun i o ho hi => by have := hops i o ho (by rwa [Nat.zero_add]); rwa [Nat.zero_add] at this) (fun p i o hp hi ho => by have := htrn p i o hp hi ho; rwa [Nat.zero_add] at this) hΨ hmq hlast hom hjm hjd hst ?_ ops.size _ _ _ ?_ ⟨by simp, hIE _ _ (Ev.drew w0) hI, rfl, rfl, ?_, fun _ _ => rfl, ?_, ?_⟩ ?_)
  · intro a w hE hd hs hold hnew hp hps
    rw [frame_eq hs, hd]
    exact hQ (fun d => a.eval (.tmp d)) w hE hold hnew hp hps
  · unfold unlisted
    exact Nat.le_trans List.countP_le_length (by simp)
  · intro i j hi
    exfalso
    by_cases hlt : i < ops.size <;> simp [hlt] at hi
  · intro i d hi
    exfalso
    by_cases hlt : i < ops.size <;> simp [hlt] at hi
  · have : doneC (Array.replicate ops.size false) ms = 0 := by
      unfold doneC
      rw [List.countP_eq_zero]
      intro i _
      by_cases hlt : i < ops.size <;> simp [hlt]
    rw [this]
    exact hSE _ _ _ (Ev.drew w0) hS
  · intro hi
    exfalso
    by_cases hlt : ml < ops.size <;> simp [hlt] at hi
theorem trp_last {R : Nat → Nat → Oper → Prop} {ops : Array Oper} {ml : Nat} (k : Nat) : ∀ p i o, ([ml] : List Nat)[p]? = some i → i ≠ ml → ops[i]? = some o → R (k + p) i o := by
  intro p i o hp hi
  cases p with
  | zero => simp at hp; exact absurd hp.symm hi
  | succ p => simp at hp
theorem trp_cons {R : Nat → Nat → Oper → Prop} {ops : Array Oper} {ml m : Nat} {ms : List Nat} {o0 : Oper} (k : Nat) (ho : ops[m]? = some o0) (h0 : R k m o0) (h : ∀ p i o, ms[p]? = some i → i ≠ ml → ops[i]? = some o → R (k + 1 + p) i o) : ∀ p i o, (m :: ms)[p]? = some i → i ≠ ml → ops[i]? = some o → R (k + p) i o := by
  intro p i o hp hn hi
  cases p with
  | zero =>
    simp at hp
    subst hp
    rw [ho] at hi
    obtain rfl := Option.some.inj hi
    exact h0
  | succ p =>
    have := h p i o (by simpa using hp) hn hi
    rwa [show k + 1 + p = k + (p + 1) by omega] at this
end
end Go.Proofs.YtojbahjebfcmgaaGreatDoor
