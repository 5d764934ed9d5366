/-
  Own rows of Values (what a call appends to), put and got: plain facts and the law of append.
-/
import Derived.Test.YtcenjjoadhfhaaaRowF
import Derived.Maps.AppendAt
namespace Go.Proofs.Ytcenjjoadhfhaaa
open Go.RowKit
set_option linter.unusedVariables false

def vlist (l : List V) : List Value := l.flatMap vcells
theorem vlist_length (l : List V) : (vlist l).length = l.length * 3 := by
  induction l with
  | nil => rfl
  | cons x l ih =>
    have : (vlist (x :: l)).length = 3 + (vlist l).length := by simp [vlist, vcells]; omega
    rw [this, ih, List.length_cons]; omega
theorem vlist_append (l m : List V) : vlist (l ++ m) = vlist l ++ vlist m := by simp [vlist]
theorem vlist_get : ∀ (l : List V) (i : Nat) (x : V), l[i]? = some x → ∀ j u, (vcells x)[j]? = some u → (vlist l)[i * 3 + j]? = some u
  | [], _, _, h, _, _, _ => by simp at h
  | y :: l, 0, x, h, j, u, hu => by
    simp at h
    subst h
    have hj : j < 3 := (List.getElem?_eq_some_iff.1 hu).1
    have e : vlist (y :: l) = vcells y ++ vlist l := rfl
    rw [e, Nat.zero_mul, Nat.zero_add, List.getElem?_append_left (by simpa [vcells] using hj)]
    exact hu
  | y :: l, i + 1, x, h, j, u, hu => by
    have e : vlist (y :: l) = vcells y ++ vlist l := rfl
    have hl : (vcells y).length = 3 := rfl
    rw [e, List.getElem?_append_right (by rw [hl]; omega), hl, show (i + 1) * 3 + j - 3 = i * 3 + j by omega]
    exact vlist_get l i x (by simpa using h) j u hu
theorem vlist_back : ∀ (l : List V) (q : Nat) (u : Value), (vlist l)[q]? = some u → ∃ x, l[q / 3]? = some x ∧ (vcells x)[q % 3]? = some u
  | [], q, u, h => by simp [vlist] at h
  | y :: l, q, u, h => by
    have e : vlist (y :: l) = vcells y ++ vlist l := rfl
    have hl : (vcells y).length = 3 := rfl
    rw [e] at h
    by_cases hq : q < 3
    · rw [List.getElem?_append_left (by rw [hl]; exact hq)] at h
      refine ⟨y, by rw [Nat.div_eq_of_lt hq]; rfl, ?_⟩
      rw [Nat.mod_eq_of_lt hq]
      exact h
    · rw [List.getElem?_append_right (by rw [hl]; omega), hl] at h
      obtain ⟨x, h1, h2⟩ := vlist_back l (q - 3) u h
      refine ⟨x, ?_, ?_⟩
      · rw [show q / 3 = (q - 3) / 3 + 1 by omega]
        simpa using h1
      · rw [show q % 3 = (q - 3) % 3 by omega]
        exact h2
theorem vlist_one (l : List V) : ∀ u ∈ vlist l, u.oneCell' = true := by
  intro u hu
  obtain ⟨x, _, hx⟩ := List.mem_flatMap.1 hu
  simp [vcells] at hx
  rcases hx with rfl | rfl | rfl <;> rfl

/-- v is a slice that holds l, in a row of its own or nowhere. -/
def Vrow (w : World) (v : Value) (l : List V) : Prop := w.ownsRow 0 50 3 v l.length (vlist l)
theorem Vrow.nil_ (w : World) : Vrow w (.slice none 0 0) [] := World.ownsRow_nil _ _ _ _
theorem Vrow.of {w : World} {base n : Nat} {v : Value} {l : List V} (h : w.ownsRow base 50 3 v n (vlist l)) : Vrow w v l := by
  have hn : l.length = n := by have := h.1; rw [vlist_length] at this; omega
  subst hn
  refine ⟨h.1, ?_⟩
  rcases h.2 with h2 | ⟨g, cap, cur, hv, hg, r⟩
  · exact .inl h2
  · exact .inr ⟨g, cap, cur, hv, Nat.zero_le _, r⟩
theorem Vrow.but {K : List Nat} {w w' : World} {v : Value} {l : List V} (h : Vrow w v l) (hb : But K w w') (hn : ∀ g, v.ownBlock = some g → g ∉ K) : Vrow w' v l := by
  refine ⟨h.1, ?_⟩
  rcases h.2 with h2 | ⟨g, cap, cur, rfl, hg, hh, r⟩
  · exact .inl h2
  · exact .inr ⟨g, cap, cur, rfl, hg, hb.heap hh (hn g rfl), r⟩
theorem Vrow.ev {w w' : World} {v : Value} {l : List V} (h : Vrow w v l) (hb : Ev w w') : Vrow w' v l := h.but (But.of_ev (K := []) hb) (fun _ _ => by simp)
theorem Vrow.lt {w : World} {v : Value} {l : List V} (h : Vrow w v l) {g : Nat} (hg : v.ownBlock = some g) : g < w.heap.size := (World.ownsRow.lt (show w.ownsRow _ _ _ _ _ _ from h) g hg).2
theorem Vrow.vs {w : World} {v : Value} {l : List V} (h : Vrow w v l) : ∃ A cap, v = .slice A l.length cap ∧ Vs w A l.length cap l ∧ (∀ ad, A = some ad → v.ownBlock = some ad.block) := by
  rcases h.2 with ⟨rfl, hn⟩ | ⟨g, cap, cur, rfl, hb, hg, hnc, hcm, hcs, ht⟩
  · have hl : l = [] := List.eq_nil_of_length_eq_zero hn
    subst hl
    exact ⟨none, 0, rfl, Sl.nil_ w, by simp⟩
  · refine ⟨_, _, rfl, ⟨rfl, hnc, by simpa [maxLen] using hcm, by simp, fun h0 => ⟨g, 0, rfl, (Array.getElem?_eq_some_iff.1 hg).1, fun i x hx j u hu => ?_⟩⟩, by rintro ad ⟨⟩; rfl⟩
    have hi := (List.getElem?_eq_some_iff.1 hx).1
    have hj : j < 3 := (List.getElem?_eq_some_iff.1 hu).1
    have := World.ownsRow.cellAt (show w.ownsRow 0 50 3 (.slice (some ⟨g, 0, none⟩) l.length cap) l.length (vlist l) from h) (i * 3 + j) (by omega)
    rw [Nat.zero_add, this]
    exact vlist_get l i x hx j u hu
theorem Vrow.form {w : World} {v : Value} {l : List V} (h : Vrow w v l) : ∃ A n cap, v = .slice A n cap := by
  obtain ⟨A, cap, rfl, _⟩ := h.vs
  exact ⟨_, _, _, rfl⟩
theorem Vrow.ne_block {w : World} {v : Value} {l : List V} (h : Vrow w v l) {b : Nat} {cs : Array Value} {T : TypeId} {fr : Nat × Nat} (hb : w.heap[b]? = some (.cells cs T fr)) (hT : T ≠ 50) : v.ownBlock ≠ some b := by
  intro e
  rcases h.2 with ⟨rfl, _⟩ | ⟨g, cap, cur, rfl, _, hg, _⟩
  · cases e
  · simp only [Value.ownBlock, Option.some.injEq] at e
    subst e
    rw [hb] at hg
    simp only [Option.some.injEq, Obj.cells.injEq] at hg
    exact hT hg.2.1
/-- A literal of one Value. -/
theorem Vs.made_one (w : World) (k n : Int) (s : ByteArray) : Vs (w.alloc (.cells #[.int .i64 k, .int .i64 n, .string s] 50)) (some ⟨w.heap.size, 0, none⟩) 1 1 [(k, n, s)] :=
  ⟨rfl, Nat.le_refl _, by omega, by simp, fun _ => ⟨w.heap.size, 0, rfl, by simp, fun i x hx j u hu => by
    have hi : i = 0 := by have := (List.getElem?_eq_some_iff.1 hx).1; simp at this; omega
    subst hi
    simp at hx
    subst hx
    rw [Lib.cell_of_heap (heap_alloc_new w _)]
    simpa [vcells] using hu⟩⟩

/-- append of Values onto a row of the call's own. -/
theorem run_append_vals {P : Program} {w : World} (ty : TypeId)
    (ht : P.underlying 29 = some (.slice 50)) (hi : (P.info? 50).map (fun i => (i.zero, i.size, i.bytes)) = some (some (.agg #[.int .i64 0, .int .i64 0, .string ⟨#[]⟩]), 3, 32))
    (v : Value) (xs : List V) (hown : Vrow w v xs) (A : Option Addr) (m c : Nat) (l : List V) (hB : Vs w A m c l) (hbytes : (xs.length + l.length) * 32 ≤ 140737488355328) :
    ∃ v' w', (Builtin.append_ #[29, 29] ty #[v, .slice A m c]).run P w = .ok v' w' ∧ Vrow w' v' (xs ++ l) ∧ But (foot v) w w' ∧ Sprung w v v' := by
  obtain ⟨i, hi0, hz, hsz, hby⟩ := info_parts hi
  have hl := hB.len
  cases A with
  | none =>
    obtain ⟨h0, h1⟩ := hB.nil rfl
    subst h0; subst h1
    have hnil : l = [] := List.eq_nil_of_length_eq_zero hl
    subst hnil
    exact ⟨v, w, run_append_owned_none (P := P) (w := w) 0 29 ty 50 i 3 ht hi0 v _ _ hown, by simpa using hown, But.refl _ _, Sprung.refl _ _⟩
  | some ad =>
    have hcells : ∀ j u, (vlist l)[j]? = some u → w.cell? (ad.add j) = some u := by
      intro q u hu
      obtain ⟨x, hx, hxu⟩ := vlist_back l q u hu
      have hq := (List.getElem?_eq_some_iff.1 hx).1
      obtain ⟨b, off, e, _, hc⟩ := hB.rd (by omega)
      obtain rfl := Option.some.inj e
      have := hc (q / 3) x hx (q % 3) u hxu
      rw [Addr.add_lit]
      rwa [show off + q / 3 * 3 + q % 3 = off + q by omega] at this
    obtain ⟨v', w', hr, h1, h2, _, h4⟩ := run_append_own_at (P := P) w 0 29 ty 50 i _ 3 32 ht hi0 hz hsz hby rfl (by decide) v xs.length (vlist xs) hown ad m c (vlist l) (by rw [vlist_length, hl]) hcells (vlist_one l) (by unfold maxLen; omega) (by rw [← hl]; exact hbytes) (Nat.zero_le _)
    refine ⟨v', w', hr, Vrow.of (base := 0) (n := xs.length + m) (by rw [vlist_append]; exact h1), But.grown h2 (fun g hg => mem_foot.2 hg), fun g hg => ?_⟩
    rcases h4 with h4 | h4
    · exact .inl (h4 ▸ hg)
    · rw [h4] at hg; simp at hg; exact .inr (by omega)

theorem wpList_append_vals {P : Program} {w : World} {ops : Array Oper} {rest : List Oper} {o : Oper} {a : Act} {Q : Exit → Act → World → Prop} (hgd : o.guard = none) (s x : Operand)
    (ho : o.op = .call { callee := .builtin .append, args := #[s, x], argTypes := #[29, 29] })
    (ht : P.underlying 29 = some (.slice 50)) (hi : (P.info? 50).map (fun i => (i.zero, i.size, i.bytes)) = some (some (.agg #[.int .i64 0, .int .i64 0, .string ⟨#[]⟩]), 3, 32))
    (v : Value) (xs : List V) (hs : a.eval s = v) (hown : Vrow w v xs) (A : Option Addr) (m c : Nat) (l : List V) (hx : a.eval x = .slice A m c) (hB : Vs w A m c l) (hbytes : (xs.length + l.length) * 32 ≤ 140737488355328)
    (h : ∀ v' w', Vrow w' v' (xs ++ l) → But (foot v) w w' → Sprung w v v' → wpList P ops Q rest (a.put o.dst v') w') : wpList P ops Q (o :: rest) a w := by
  refine wpList_plain hgd fun K hK => ?_
  obtain ⟨v', w', hr, h2, h3, h4⟩ := run_append_vals (P := P) (w := w) o.type ht hi v xs hown A m c l hB hbytes
  unfold Oper.wp execOp
  simp only [ho, resolve, invoke, builtin, Sem.run_bind, Sem.run_pure, Result.andThen_ok, List.map_toArray, List.map_cons, List.map_nil, hs, hx, hr]
  exact hK _ _ (h v' w' h2 h3 h4)
theorem Try.infoVal : (Try.prog.info? 50).map (fun i => (i.zero, i.size, i.bytes)) = some (some (.agg #[.int .i64 0, .int .i64 0, .string ⟨#[]⟩]), 3, 32) := by kernel_rfl

/-- P5.3: what Put writes. -/
abbrev putVV (x : V) : List UInt8 := putV x.1 x.2.1 x.2.2
def putR (l : List V) : List UInt8 := le 1 (low (l.length : Int)) ++ l.flatMap putVV
/-- A bound on what is written of the values. -/
def sizeR : List V → Nat
  | [] => 0
  | x :: l => x.2.2.size + 9 + sizeR l
theorem flat_put_le : ∀ l : List V, (l.flatMap putVV).length ≤ sizeR l
  | [] => Nat.le_refl _
  | x :: l => by
    have h1 := putV_length x.1 x.2.1 x.2.2
    have h2 := flat_put_le l
    simp only [List.flatMap_cons, List.length_append, sizeR]
    unfold putVV at *
    omega
theorem sizeR_take : ∀ (l : List V) (k : Nat) (x : V), l[k]? = some x → sizeR (l.take k) + (x.2.2.size + 9) ≤ sizeR l
  | [], _, _, h => by simp at h
  | y :: l, 0, x, h => by simp at h; subst h; simp [sizeR]
  | y :: l, k + 1, x, h => by
    have := sizeR_take l k x (by simpa using h)
    simp only [List.take_succ_cons, sizeR]
    omega
theorem sizeR_take_le : ∀ (l : List V) (k : Nat), sizeR (l.take k) ≤ sizeR l
  | [], k => by simp [sizeR]
  | y :: l, 0 => by simp [sizeR]
  | y :: l, k + 1 => by
    have := sizeR_take_le l k
    simp only [List.take_succ_cons, sizeR]
    omega
theorem flat_take {l : List V} {k : Nat} {x : V} (h : l[k]? = some x) : (l.take (k + 1)).flatMap putVV = (l.take k).flatMap putVV ++ putVV x := by
  obtain ⟨hk, rfl⟩ := List.getElem?_eq_some_iff.1 h
  rw [List.take_succ_eq_append_getElem hk, List.flatMap_append]
  simp
theorem putR_length (l : List V) : (putR l).length ≤ 1 + sizeR l := by
  have := flat_put_le l
  unfold putR
  rw [List.length_append, le_length]
  omega

/-- P5.3: the number of values that is read; the values. -/
def rdX (L : List UInt8) (why pos : Nat) : V := ((rdVal L why pos).1.1, (rdVal L why pos).1.2.1, ⟨(rdVal L why pos).1.2.2.toArray⟩)
def rdCount (L : List UInt8) (why pos : Nat) : Nat × Nat × Nat :=
  if 0 < rdLeft L why pos ∧ ¬ (1 ≤ leVal (rdTake L why pos 1).1 ∧ leVal (rdTake L why pos 1).1 ≤ 6) then (0, 3, pos) else (leVal (rdTake L why pos 1).1, (rdTake L why pos 1).2)
def rdLoop (L : List UInt8) : Nat → List V → Nat → Nat → List V × Nat × Nat
  | 0, acc, why, pos => (acc, why, pos)
  | m + 1, acc, why, pos => if rightVV (rdX L why pos) = true then rdLoop L m (acc ++ [rdX L why pos]) (rdVal L why pos).2.1 (rdVal L why pos).2.2 else ([], (rdVal L why pos).2)
def rdRow (L : List UInt8) (why pos : Nat) : List V × Nat × Nat := rdLoop L (rdCount L why pos).1 [] (rdCount L why pos).2.1 (rdCount L why pos).2.2
theorem rdCount_le (L : List UInt8) (why pos : Nat) : (rdCount L why pos).1 ≤ 6 := by
  unfold rdCount
  split
  · exact Nat.zero_le _
  · rename_i h
    by_cases hl : 0 < rdLeft L why pos
    · have : 1 ≤ leVal (rdTake L why pos 1).1 ∧ leVal (rdTake L why pos 1).1 ≤ 6 := by
        by_cases h2 : 1 ≤ leVal (rdTake L why pos 1).1 ∧ leVal (rdTake L why pos 1).1 ≤ 6
        · exact h2
        · exact absurd ⟨hl, h2⟩ h
      exact this.2
    · have : (rdTake L why pos 1).1 = [] := by unfold rdTake; rw [if_neg (by omega)]
      rw [this]
      simp [leVal]
theorem rdLoop_end (L : List UInt8) (acc : List V) (why pos : Nat) : rdLoop L 0 acc why pos = (acc, why, pos) := rfl
end Go.Proofs.Ytcenjjoadhfhaaa
