/-
  A region that draws its order and ends in two operations in a forced order (a store, an assignment): all others are taken once for all orders.
-/
import Derived.Test.YtdfoangkjeoomaaRegionLast
namespace Go.Proofs.Ytdfoangkjeoomaa
open Go.RowKit
set_option linter.unusedVariables false

section
variable {P : Program} {md : Region.Mode} {ops : Array Oper} {Q : Exit → Act → World → Prop} {Φ : List (Value → World → Prop)} {a0 : Act} {w0 : World}

theorem wpAny_tail (ht : tidy md ops a0.tmps.size = true) (hm : AllMono Φ) {m : Nat} {om : Oper} (hom : ops[m]? = some om) {o2 : Oper} (ho2 : ops[m + 1]? = some o2) (hsz : ops.size = m + 2) (h2m : preds md ops (m + 1) m = true) (hall : (List.range m).all (fun j => preds md ops m j) = true)
    (hops : ∀ i o, ops[i]? = some o → i < m → OpOk P md ops Q Φ a0 w0 i o)
    (hQ : ∀ a w, Ev w0 w → a.defers = a0.defers → a.tmps.size = a0.tmps.size → (∀ d, nobody ops d = true → a.eval (.tmp d) = a0.eval (.tmp d)) →
      (∀ i d, i < m → dstAt ops i = some d → factAt Φ i (a.eval (.tmp d)) w) →
      Region.wanted om (yielded ops a.tmps) = true ∧ Oper.wp P om a w (fun a' w' => Region.wanted o2 (yielded ops a'.tmps) = true ∧ Oper.wp P o2 a' w' (Q .normal) Q) Q) :
    ∀ (fuel : Nat) (listed : Array Bool) (a : Act) (w : World), unlisted listed ops.size ≤ fuel → listed.getD m false = false → listed.getD (m + 1) false = false → Mid md ops Φ a0 w0 listed a w → wpAny P md ops Q fuel listed a w := by
  have hmlt : m < ops.size := by omega
  intro fuel
  induction fuel with
  | zero =>
    intro listed a w hu hml hml2 h
    exfalso
    have : unlisted listed ops.size = 0 := by omega
    unfold unlisted at this
    rw [List.countP_eq_zero] at this
    exact this m (List.mem_range.2 hmlt) (by rw [hml]; rfl)
  | succ fuel ih =>
    intro listed a w hu hml hml2 h
    refine ⟨fun hr => ?_, fun i hi => ?_⟩
    · have := all_listed ht h.size hr m hmlt
      rw [hml] at this
      cases this
    · obtain ⟨h0, o, ho, hbef⟩ := mem_ready.1 hi
      have hlt : i < ops.size := (Array.getElem?_eq_some_iff.1 ho).1
      have hl : i < listed.size := by rw [h.size]; exact hlt
      have hun : listed.getD i false = false := by simpa [hl] using h0
      by_cases him : i = m
      · subst him
        rw [hom] at ho
        obtain rfl := Option.some.inj ho
        have hdone : ∀ j, j < i → listed.getD j false = true := by
          intro j hj
          have hp := (List.all_eq_true.1 hall) j (List.mem_range.2 hj)
          unfold preds at hp
          simp only [hom] at hp
          obtain ⟨e, he, hb⟩ := Array.any_eq_true'.1 hp
          simp only [Bool.and_eq_true, beq_iff_eq] at hb
          rw [← hb.2]
          exact hbef e he hb.1
        obtain ⟨hw, hwp⟩ := hQ a w h.ev h.defers h.slots (fun d hd => h.keep d fun j hj hjd => by
            have hltj : j < ops.size := by
              unfold dstAt at hjd
              cases hoj : ops[j]? with
              | none => simp [hoj] at hjd
              | some o => exact (Array.getElem?_eq_some_iff.1 hoj).1
            have := (List.all_eq_true.1 hd) j (List.mem_range.2 hltj)
            simp [hjd] at this) (fun j d hj hd => h.done j d (hdone j hj) hd)
        refine wpOp_step hom fun K' hK' => ?_
        rw [if_pos hw]
        have hl2 : i + 1 < listed.size := by rw [h.size]; omega
        have hset : ∀ j, j < ops.size → j ≠ i + 1 → (listed.setIfInBounds i true).getD j false = true := by
          intro j hj hne
          by_cases hji : j = i
          · subst hji; simp [hl]
          · exact getD_set_true (hdone j (by omega))
        have hf1 : (listed.setIfInBounds i true).getD (i + 1) false = false := by rw [getD_set_ne false (by omega)]; exact hml2
        have hfu : 1 ≤ fuel := by
          have := unlisted_set h.size hlt hun
          have h3 := unlisted_set (listed := listed.setIfInBounds i true) (i := i + 1) (by simpa using h.size) (by omega) hf1
          omega
        obtain ⟨fuel', rfl⟩ : ∃ f, fuel = f + 1 := ⟨fuel - 1, by omega⟩
        refine Oper.wp_mono (fun a' w' hq => hK' a' w' ⟨fun hr => ?_, fun j hj => ?_⟩) hwp
        · exfalso
          have : i + 1 ∈ Region.ready md ops (listed.setIfInBounds i true) := by
            rw [mem_ready]
            refine ⟨by simp only [Array.getD_eq_getD_getElem?] at hf1; simpa [hl2] using hf1, o2, ho2, fun e he hb => ?_⟩
            have hp : preds md ops (i + 1) e.on = true := by
              unfold preds
              rw [ho2]
              exact Array.any_eq_true'.2 ⟨e, he, by simp [hb]⟩
            have hb2 := tidy_before ht hp
            exact hset e.on (by omega) (by omega)
          rw [hr] at this
          cases this
        · have hj1 : j = i + 1 := by
            obtain ⟨hj0, oj, hoj, _⟩ := mem_ready.1 hj
            have hltj : j < ops.size := (Array.getElem?_eq_some_iff.1 hoj).1
            by_cases hne : j = i + 1
            · exact hne
            · have h4 := hset j hltj hne
              have hlj : j < (listed.setIfInBounds i true).size := by simp [h.size, hltj]
              simp only [Array.getD_eq_getD_getElem?, Array.getElem?_eq_getElem hlj, Option.getD_some] at hj0 h4
              rw [hj0] at h4
              cases h4
          subst hj1
          refine wpOp_step ho2 fun K2 hK2 => ?_
          rw [if_pos hq.1]
          refine Oper.wp_mono (fun a2 w2 hq2 => hK2 a2 w2 (wpAny_done ?_ hq2 fuel')) hq.2
          apply List.eq_nil_iff_forall_not_mem.2
          intro j hj
          obtain ⟨hj0, oj, hoj, _⟩ := mem_ready.1 hj
          have hltj : j < ops.size := (Array.getElem?_eq_some_iff.1 hoj).1
          have hlj : j < ((listed.setIfInBounds i true).setIfInBounds (i + 1) true).size := by simp [h.size, hltj]
          have hjt : ((listed.setIfInBounds i true).setIfInBounds (i + 1) true).getD j false = true := by
            by_cases hji : j = i + 1
            · subst hji; simp [hl2]
            · exact getD_set_true (hset j hltj hji)
          simp only [Array.getD_eq_getD_getElem?, Array.getElem?_eq_getElem hlj, Option.getD_some] at hj0 hjt
          rw [hj0] at hjt
          cases hjt
      · have hcount := unlisted_set h.size hlt hun
        refine wpOp_step ho fun K' hK' => ?_
        have him1 : i ≠ m + 1 := by
          rintro rfl
          have h5 := h2m
          unfold preds at h5
          simp only [ho] at h5
          obtain ⟨e, he, hb⟩ := Array.any_eq_true'.1 h5
          simp only [Bool.and_eq_true, beq_iff_eq] at hb
          have h6 := hbef e he hb.1
          rw [hb.2, hml] at h6
          cases h6
        refine hops i o ho (by omega) a w h.ev h.defers (fun d hd => h.keep d fun j hj hjd => ?_) (fun j d hp hd => ?_) K' (fun v w' hE hv => hK' _ _ (ih _ _ _ (by omega) ?_ ?_ (h.step ht hm ho hi hE hv)))
        · have hltj : j < ops.size := by
            unfold dstAt at hjd
            cases hoj : ops[j]? with
            | none => simp [hoj] at hjd
            | some o => exact (Array.getElem?_eq_some_iff.1 hoj).1
          have h1 := (List.all_eq_true.1 hd) j (List.mem_range.2 hltj)
          simp only [Bool.or_eq_true, beq_iff_eq, bne_iff_ne] at h1
          rcases h1 with (h1 | h1) | h1
          · subst h1; rw [hun] at hj; cases hj
          · exact h1 hjd
          · have := h.closed j i hj h1
            rw [hun] at this; cases this
        · refine h.done j d ?_ hd
          unfold preds at hp
          simp only [ho] at hp
          obtain ⟨e, he, hb⟩ := Array.any_eq_true'.1 hp
          simp only [Bool.and_eq_true, beq_iff_eq] at hb
          rw [← hb.2]
          exact hbef e he hb.1
        · rw [getD_set_ne false him]
          exact hml
        · rw [getD_set_ne false him1]
          exact hml2

/-- The region, its last operation run in the frame written out over its slots s. -/
theorem wp_region_tail {id : Nat} (hmix : P.follows .mixedOrders = true) (Φ : List (Value → World → Prop)) (n : Nat) (hn : a0.tmps.size = n) (m : Nat) (om : Oper) (hom : ops[m]? = some om) (o2 : Oper) (ho2 : ops[m + 1]? = some o2) (hsz : ops.size = m + 2) (h2m : preds .any ops (m + 1) m = true)
    (hall : (List.range m).all (fun j => preds .any ops m j) = true) (ht : tidy .any ops n = true) (hm : AllMono Φ)
    (hops : ∀ i o, ops[i]? = some o → i < m → OpOk P .any ops Q Φ a0 w0 i o)
    (hQ : ∀ (s : Nat → Value) w, Ev w0 w → (∀ d, nobody ops d = true → s d = a0.eval (.tmp d)) → (∀ i d, i < m → dstAt ops i = some d → factAt Φ i (s d) w) →
      Region.wanted om (yielded ops ((List.range n).map s).toArray) = true ∧ Oper.wp P om ⟨((List.range n).map s).toArray, a0.defers⟩ w (fun a' w' => Region.wanted o2 (yielded ops a'.tmps) = true ∧ Oper.wp P o2 a' w' (Q .normal) Q) Q) :
    (Code.region id ops true).wp P Q a0 w0 := by
  subst hn
  refine wp_region_any hmix (wpAny_tail ht hm hom ho2 hsz h2m hall hops ?_ ops.size _ _ _ ?_ ?_ ?_ ⟨by simp, ?_, rfl, rfl, ?_, fun _ _ => rfl, ?_⟩)
  · intro a w hE hd hs hold hnew
    have hf := frame_eq hs
    rw [hd] at hf
    have hq := hQ (fun d => a.eval (.tmp d)) w hE hold hnew
    rw [hf]
    rw [← hf] at hq ⊢
    exact ⟨by have := hq.1; rwa [show ((List.range a0.tmps.size).map fun d => a.eval (.tmp d)).toArray = a.tmps from (congrArg Act.tmps hf).symm] at this, hq.2⟩
  · unfold unlisted
    exact Nat.le_trans List.countP_le_length (by simp)
  · have hlt : m < ops.size := by omega
    simp [hlt]
  · have hlt : m + 1 < ops.size := by omega
    simp [hlt]
  · exact ⟨rfl, rfl, rfl, Nat.le_refl _, fun _ _ => rfl⟩
  · intro i j hi
    exfalso
    by_cases hlt : i < ops.size <;> simp [hlt] at hi
  · intro i d hi
    exfalso
    by_cases hlt : i < ops.size <;> simp [hlt] at hi

end
end Go.Proofs.Ytdfoangkjeoomaa
