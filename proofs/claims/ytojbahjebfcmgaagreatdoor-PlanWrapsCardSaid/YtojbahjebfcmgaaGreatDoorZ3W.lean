/-
  Texts that belong together: A frame with exceptions: of the blocks that were there only those in a list may have turned. And appending to a row of bytes, with its footprint: the row's block, or a new one. Of the program only the number of the type uint8 is used. A region that draws its order, one of whose operations (m) may turn some blocks K of what was there (an append onto a row of the caller's, a call that does so): all orders once. All others only make memory; what is said of them stays true when the blocks of K turn; what is said of operation m stays true while the world only grows.
-/
import Derived.Maps.AppendAt
import Derived.Lib.AppendStr
import Derived.Lib.Hide
import Derived.Test.YtojbahjebfcmgaaGreatDoorZ2W
namespace Go.Proofs.YtojbahjebfcmgaaGreatDoor
open Go.RowKit
set_option linter.unusedVariables false

/-- Of what was there only blocks of K may have turned. -/
structure But (K : List Nat) (w w' : World) : Prop where
  os : w'.os = w.os
  tape : w'.tape = w.tape
  output : w'.output = w.output
  size : w.heap.size ≤ w'.heap.size
  block : ∀ k, k < w.heap.size → k ∉ K → w'.heap[k]? = w.heap[k]?

theorem But.refl (K : List Nat) (w : World) : But K w w := ⟨rfl, rfl, rfl, Nat.le_refl _, fun _ _ _ => rfl⟩
theorem But.trans {K K' : List Nat} {a b c : World} (h : But K a b) (k : But K' b c) (hs : ∀ x ∈ K', x ∈ K ∨ a.heap.size ≤ x) : But K a c :=
  ⟨k.os.trans h.os, k.tape.trans h.tape, k.output.trans h.output, Nat.le_trans h.size k.size, fun i hi hn => by
    rw [k.block i (Nat.lt_of_lt_of_le hi h.size) (fun hm => (hs i hm).elim hn (fun h1 => by omega)), h.block i hi hn]⟩
theorem But.then {K : List Nat} {a b c : World} (h : But K a b) (k : But K b c) : But K a c := h.trans k fun _ hx => .inl hx
theorem But.of_ev {K : List Nat} {w w' : World} (h : Ev w w') : But K w w' := ⟨h.os, h.tape, h.output, h.size, fun k hk _ => h.block k hk⟩
theorem But.below {K : List Nat} {w w' : World} {B : Nat} (h : But K w w') (hB : B ≤ w.heap.size) (hK : ∀ k ∈ K, B ≤ k) : Below B w w' :=
  ⟨h.os, h.tape, h.output, h.size, fun k hk => h.block k (by omega) fun hm => by have := hK k hm; omega⟩
theorem But.ev {K : List Nat} {w w' : World} (h : But K w w') (hK : ∀ k ∈ K, w.heap.size ≤ k) : Ev w w' := h.below (Nat.le_refl _) hK
theorem But.wide {K K' : List Nat} {w w' : World} (h : But K w w') (hs : ∀ x ∈ K, x ∈ K' ∨ w.heap.size ≤ x) : But K' w w' :=
  (But.refl K' w).trans h hs
theorem But.setCell {K : List Nat} {w : World} (p : Addr) (v : Value) (h : p.block ∈ K) : But K w (w.setCell p v) :=
  ⟨rfl, rfl, rfl, by simp [World.setCell], fun k _ hn => Below.heap_setCell _ _ _ _ fun e => hn (e ▸ h)⟩
theorem But.grown {K : List Nat} {w w' : World} {row : Option Nat} (h : w.grownBy w' row) (hr : ∀ g, row = some g → g ∈ K) : But K w w' :=
  ⟨h.os, h.tape, h.output, h.size, fun k hk hn => h.block k hk fun e => hn (hr k e.symm)⟩
theorem But.heap {K : List Nat} {w w' : World} (h : But K w w') {k : Nat} {o : Obj} (hk : w.heap[k]? = some o) (hn : k ∉ K) : w'.heap[k]? = some o := by
  rw [h.block k (Array.getElem?_eq_some_iff.1 hk).1 hn]; exact hk
theorem But.alloc {K : List Nat} {w : World} (o : Obj) : But K w (w.alloc o) := .of_ev (Ev.alloc w o)
theorem But.drew {K : List Nat} {w : World} : But K w w.drew := .of_ev (Ev.drew w)

theorem Bs.but {K : List Nat} {w w' : World} {A : Option Addr} {n cap : Nat} {l : List UInt8} (h : Bs w A n cap l) (hb : But K w w') (hA : ∀ ad, A = some ad → ad.block ∉ K) : Bs w' A n cap l :=
  ⟨h.len, h.le, h.max, h.nil, fun hn => by
    obtain ⟨b, off, e, hlt, hc⟩ := h.rd hn
    refine ⟨b, off, e, Nat.lt_of_lt_of_le hlt hb.size, fun i hi => ?_⟩
    rw [World.cell?_of_block (w := w) (hb.block b hlt (hA _ e))]
    exact hc i hi⟩

/-- v is a slice that holds l, in a row of its own or nowhere. -/
def Row (w : World) (v : Value) (l : List UInt8) : Prop := w.ownsRow 0 5 1 v l.length (bvs l)
/-- The row of v' is that of v, or a new one. -/
def Sprung (w : World) (v v' : Value) : Prop := ∀ g, v'.ownBlock = some g → v.ownBlock = some g ∨ w.heap.size ≤ g
theorem Sprung.refl (w : World) (v : Value) : Sprung w v v := fun _ h => .inl h
theorem Sprung.trans {w w1 : World} {a b c : Value} (h : Sprung w a b) (k : Sprung w1 b c) (hs : w.heap.size ≤ w1.heap.size) : Sprung w a c := fun g hg => by
  rcases k g hg with h1 | h1
  · exact h g h1
  · exact .inr (by omega)
/-- The blocks that a write to v may turn. -/
def foot (v : Value) : List Nat := v.ownBlock.toList
theorem mem_foot {v : Value} {g : Nat} : g ∈ foot v ↔ v.ownBlock = some g := by
  unfold foot
  cases v.ownBlock <;> simp [eq_comm]

theorem Row.nil_ (w : World) : Row w (.slice none 0 0) [] := World.ownsRow_nil _ _ _ _
theorem Row.of {w : World} {base n : Nat} {v : Value} {l : List UInt8} (h : w.ownsRow base 5 1 v n (bvs l)) : Row w v l := by
  have hn : l.length = n := by have := h.1; simpa [bvs] using this
  subst hn
  refine ⟨h.1, ?_⟩
  rcases h.2 with h2 | ⟨g, cap, cur, hv, hg, r⟩
  · exact .inl h2
  · exact .inr ⟨g, cap, cur, hv, Nat.zero_le _, r⟩
theorem Row.but {K : List Nat} {w w' : World} {v : Value} {l : List UInt8} (h : Row w v l) (hb : But K w w') (hn : ∀ g, v.ownBlock = some g → g ∉ K) : Row w' v l := by
  refine ⟨h.1, ?_⟩
  rcases h.2 with h2 | ⟨g, cap, cur, rfl, hg, hh, r⟩
  · exact .inl h2
  · exact .inr ⟨g, cap, cur, rfl, hg, hb.heap hh (hn g rfl), r⟩
theorem Row.ev {w w' : World} {v : Value} {l : List UInt8} (h : Row w v l) (hb : Ev w w') : Row w' v l := h.but (But.of_ev (K := []) hb) (fun _ _ => by simp)
theorem Row.lt {w : World} {v : Value} {l : List UInt8} (h : Row w v l) {g : Nat} (hg : v.ownBlock = some g) : g < w.heap.size := (World.ownsRow.lt (show w.ownsRow _ _ _ _ _ _ from h) g hg).2
theorem Row.bs {w : World} {v : Value} {l : List UInt8} (h : Row w v l) : ∃ A cap, v = .slice A l.length cap ∧ Bs w A l.length cap l ∧ (∀ ad, A = some ad → v.ownBlock = some ad.block) ∧ (A = none → cap = 0) := by
  rcases h.2 with ⟨rfl, hn⟩ | ⟨g, cap, cur, rfl, _⟩
  · refine ⟨none, 0, by rw [hn], ?_, by simp, fun _ => rfl⟩
    have := h
    unfold Row at this
    rw [hn] at this ⊢
    exact Bs.own this
  · exact ⟨_, _, rfl, Bs.own h, by rintro ad ⟨⟩; rfl, by simp⟩
theorem Row.form {w : World} {v : Value} {l : List UInt8} (h : Row w v l) : ∃ A n cap, v = .slice A n cap := by
  obtain ⟨A, cap, rfl, _⟩ := h.bs
  exact ⟨_, _, _, rfl⟩
theorem Row.ne_block {w : World} {v : Value} {l : List UInt8} (h : Row w v l) {b : Nat} {cs : Array Value} {T : TypeId} {fr : Nat × Nat} (hb : w.heap[b]? = some (.cells cs T fr)) (hT : T ≠ 5) : v.ownBlock ≠ some b := by
  intro e
  rcases h.2 with ⟨rfl, _⟩ | ⟨g, cap, cur, rfl, _, hg, _⟩
  · cases e
  · simp only [Value.ownBlock, Option.some.injEq] at e
    subst e
    rw [hb] at hg
    simp only [Option.some.injEq, Obj.cells.injEq] at hg
    exact hT hg.2.1

/-- append of a slice of bytes onto a row of the call's own. -/
theorem run_append_row {P : Program} {w : World} (ty : TypeId)
    (ht : P.underlying 139 = some (.slice 5)) (hi : (P.info? 5).map (fun i => (i.zero, i.size, i.bytes)) = some (some (.int .u8 0), 1, 1))
    (v : Value) (xs : List UInt8) (hown : Row w v xs) (A : Option Addr) (m c : Nat) (l : List UInt8) (hB : Bs w A m c l) (hbytes : xs.length + l.length ≤ 140737488355328) :
    ∃ v' w', (Builtin.append_ #[139, 139] ty #[v, .slice A m c]).run P w = .ok v' w' ∧ Row w' v' (xs ++ l) ∧ But (foot v) w w' ∧ Sprung w v v' := by
  obtain ⟨i, hi0, hz, hsz, hby⟩ := info_parts hi
  have hl := hB.len
  cases A with
  | none =>
    obtain ⟨h0, h1⟩ := hB.nil rfl
    subst h0; subst h1
    have hnil : l = [] := List.eq_nil_of_length_eq_zero hl
    subst hnil
    exact ⟨v, w, run_append_owned_none (P := P) (w := w) 0 139 ty 5 i 1 ht hi0 v _ _ hown, by simpa using hown, But.refl _ _, Sprung.refl _ _⟩
  | some ad =>
    obtain ⟨v', w', hr, h1, h2, _, h4⟩ := run_append_own_at (P := P) w 0 139 ty 5 i (.int .u8 0) 1 1 ht hi0 hz hsz hby rfl (by decide) v xs.length (bvs xs) hown ad m c (bvs l) (by rw [bvs_length, hl]; omega) (hB.cells ad rfl) (bvs_one l) (by unfold maxLen; omega) (by omega) (Nat.zero_le _)
    refine ⟨v', w', hr, Row.of (base := 0) (n := xs.length + m) (by rw [bvs_append]; exact h1), But.grown h2 (fun g hg => mem_foot.2 hg), fun g hg => ?_⟩
    rcases h4 with h4 | h4
    · exact .inl (h4 ▸ hg)
    · rw [h4] at hg; simp at hg; exact .inr (by omega)

theorem wpList_append_row {P : Program} {w : World} {ops : Array Oper} {rest : List Oper} {o : Oper} {a : Act} {Q : Exit → Act → World → Prop} (hgd : o.guard = none) (s x : Operand)
    (ho : o.op = .call { callee := .builtin .append, args := #[s, x], argTypes := #[139, 139] })
    (ht : P.underlying 139 = some (.slice 5)) (hi : (P.info? 5).map (fun i => (i.zero, i.size, i.bytes)) = some (some (.int .u8 0), 1, 1))
    (v : Value) (xs : List UInt8) (hs : a.eval s = v) (hown : Row w v xs) (A : Option Addr) (m c : Nat) (l : List UInt8) (hx : a.eval x = .slice A m c) (hB : Bs w A m c l) (hbytes : xs.length + l.length ≤ 140737488355328)
    (h : ∀ v' w', Row w' v' (xs ++ l) → But (foot v) w w' → Sprung w v v' → wpList P ops Q rest (a.put o.dst v') w') : wpList P ops Q (o :: rest) a w := by
  refine wpList_plain hgd fun K hK => ?_
  obtain ⟨v', w', hr, h2, h3, h4⟩ := run_append_row (P := P) (w := w) o.type ht hi v xs hown A m c l hB hbytes
  unfold Oper.wp execOp
  simp only [ho, resolve, invoke, builtin, Sem.run_bind, Sem.run_pure, Result.andThen_ok, List.map_toArray, List.map_cons, List.map_nil, hs, hx, hr]
  exact hK _ _ (h v' w' h2 h3 h4)

theorem strCells_bvs (s : ByteArray) : Lib.strCells s = bvs s.data.toList := by
  simp [Lib.strCells, bvs]
  intro a _
  rfl

/-- append of a string onto a row of the call's own. -/
theorem run_append_str {P : Program} {w : World} (ty : TypeId)
    (ht : P.underlying 139 = some (.slice 5)) (hu : P.underlying 9 = some .string) (hi : (P.info? 5).map (fun i => (i.zero, i.size, i.bytes)) = some (some (.int .u8 0), 1, 1))
    (v : Value) (xs : List UInt8) (hown : Row w v xs) (s : ByteArray) (hbytes : xs.length + s.size ≤ 140737488355328) :
    ∃ v' w', (Builtin.append_ #[139, 9] ty #[v, .string s]).run P w = .ok v' w' ∧ Row w' v' (xs ++ s.data.toList) ∧ But (foot v) w w' ∧ Sprung w v v' := by
  obtain ⟨i, hi0, hz, hsz, hby⟩ := info_parts hi
  obtain ⟨v', w', hr, h1, h2, _⟩ := Lib.run_append_own_string (P := P) w 0 139 9 ty 5 i ht hu hi0 hz hsz hby v xs.length (bvs xs) hown s (by unfold maxLen; omega) hbytes (Nat.zero_le _)
  refine ⟨v', w', hr, Row.of (base := 0) (n := xs.length + s.size) (by rw [bvs_append, ← strCells_bvs]; exact h1), But.grown h2 (fun g hg => mem_foot.2 hg), ?_⟩
  rcases hown.2 with ⟨rfl, _⟩ | ⟨g, cap, cur, rfl, _, hg, hnc, hcm, hcs, htake⟩
  · have hx : xs = [] := by
      have h0 : xs.length = 0 := by assumption
      exact List.eq_nil_of_length_eq_zero h0
    subst hx
    obtain ⟨v2, w2, hr2, h3, _, _⟩ := Lib.run_append_own_string (P := P) w w.heap.size 139 9 ty 5 i ht hu hi0 hz hsz hby (.slice none 0 0) 0 [] (World.ownsRow_nil _ _ _ _) s (by unfold maxLen; simp at hbytes; omega) (by simpa using hbytes) (Nat.le_refl _)
    rw [hr] at hr2
    simp only [Result.ok.injEq] at hr2
    obtain ⟨rfl, rfl⟩ := hr2
    exact fun g hg => .inr (h3.lt g hg).1
  · by_cases hroom : xs.length + s.size ≤ cap
    · have hr2 := Lib.run_append_room_string (P := P) w 139 9 ty 5 i ht hu hi0 hsz g xs.length cap cur hg s hroom (by omega)
      rw [hr] at hr2
      simp only [Result.ok.injEq] at hr2
      obtain ⟨rfl, _⟩ := hr2
      exact fun g hg => .inl hg
    · have hr2 := Lib.run_append_grow_string (P := P) w 139 9 ty 5 i (.int .u8 0) ht hu hi0 hz ⟨g, 0, none⟩ xs.length cap (bvs xs) (by rw [hsz]; simp [bvs]) (World.ownsRow.cells hown rfl) s (by omega) (by omega) (by rw [hby]; exact growslice_fits (by omega) (by omega))
      rw [hr] at hr2
      simp only [Result.ok.injEq] at hr2
      obtain ⟨rfl, _⟩ := hr2
      exact fun g' hg' => .inr (by simp [Value.ownBlock] at hg'; omega)

theorem wpList_append_str {P : Program} {w : World} {ops : Array Oper} {rest : List Oper} {o : Oper} {a : Act} {Q : Exit → Act → World → Prop} (hgd : o.guard = none) (s x : Operand)
    (ho : o.op = .call { callee := .builtin .append, args := #[s, x], argTypes := #[139, 9] })
    (ht : P.underlying 139 = some (.slice 5)) (hu : P.underlying 9 = some .string) (hi : (P.info? 5).map (fun i => (i.zero, i.size, i.bytes)) = some (some (.int .u8 0), 1, 1))
    (v : Value) (xs : List UInt8) (hs : a.eval s = v) (hown : Row w v xs) (t : ByteArray) (hx : a.eval x = .string t) (hbytes : xs.length + t.size ≤ 140737488355328)
    (h : ∀ v' w', Row w' v' (xs ++ t.data.toList) → But (foot v) w w' → Sprung w v v' → wpList P ops Q rest (a.put o.dst v') w') : wpList P ops Q (o :: rest) a w := by
  refine wpList_plain hgd fun K hK => ?_
  obtain ⟨v', w', hr, h2, h3, h4⟩ := run_append_str (P := P) (w := w) o.type ht hu hi v xs hown t hbytes
  unfold Oper.wp execOp
  simp only [ho, resolve, invoke, builtin, Sem.run_bind, Sem.run_pure, Result.andThen_ok, List.map_toArray, List.map_cons, List.map_nil, hs, hx, hr]
  exact hK _ _ (h v' w' h2 h3 h4)
end Go.Proofs.YtojbahjebfcmgaaGreatDoor

namespace Go.Proofs.YtojbahjebfcmgaaGreatDoor
open Go.RowKit
set_option linter.unusedVariables false

def MonoB (K : List Nat) (φ : Value → World → Prop) : Prop := ∀ v w w', But K w w' → φ v w → φ v w'
def AllMonoB (md : Region.Mode) (ops : Array Oper) (K : List Nat) (m : Nat) : Nat → List (Value → World → Prop) → Prop
  | _, [] => True
  | k, φ :: l => (k = m ∨ preds md ops k m = true ∨ MonoB K φ) ∧ AllMonoB md ops K m (k + 1) l
theorem factAt_monoB {md : Region.Mode} {ops : Array Oper} {K : List Nat} {m : Nat} : ∀ (Φ : List (Value → World → Prop)) (k : Nat), AllMonoB md ops K m k Φ → ∀ i, k + i ≠ m → preds md ops (k + i) m = false → MonoB K (factAt Φ i)
  | [], _, _, i, _, _ => fun _ _ _ _ _ => trivial
  | φ :: l, k, h, 0, hn, hp => by
    rcases h.1 with h1 | h1 | h1
    · exact absurd h1 hn
    · rw [Nat.add_zero, h1] at hp; cases hp
    · exact h1
  | φ :: l, k, h, i + 1, hn, hp => factAt_monoB l (k + 1) h.2 i (by omega) (by rwa [show k + 1 + i = k + (i + 1) by omega])

section
variable {P : Program} {md : Region.Mode} {ops : Array Oper} {Q : Exit → Act → World → Prop} {Φ : List (Value → World → Prop)} {a0 : Act} {w0 : World} {K : List Nat} {m : Nat}

/-- What operation i may turn. -/
def Turns (K : List Nat) (m i : Nat) (w w' : World) : Prop := if i = m then But K w w' else Ev w w'
theorem Turns.but {i : Nat} {w w' : World} (h : Turns K m i w w') : But K w w' := by
  unfold Turns at h
  split at h
  · exact h
  · exact But.of_ev h
theorem Turns.ev {i : Nat} {w w' : World} (h : Turns K m i w w') (hi : i ≠ m) : Ev w w' := by
  unfold Turns at h
  rwa [if_neg hi] at h
theorem Turns.of_ev {i : Nat} {w w' : World} (h : Ev w w') : Turns K m i w w' := by
  unfold Turns
  split
  · exact But.of_ev h
  · exact h
/-- What operation i may know when it runs. -/
structure CtxB (md : Region.Mode) (ops : Array Oper) (Φ : List (Value → World → Prop)) (a0 : Act) (w0 : World) (K : List Nat) (m i : Nat) (a : Act) (w : World) : Prop where
  but : But K w0 w
  evm : i = m → Ev w0 w
  old : ∀ d, later md ops i d = true → a.eval (.tmp d) = a0.eval (.tmp d)
  new : ∀ j d, preds md ops i j = true → dstAt ops j = some d → factAt Φ j (a.eval (.tmp d)) w
theorem CtxB.was {i : Nat} {a : Act} {w : World} (c : CtxB md ops Φ a0 w0 K m i a w) (d : Nat) {v : Value} (h : later md ops i d = true) (hv : a0.eval (.tmp d) = v) : a.eval (.tmp d) = v := (c.old d h).trans hv
structure MidB (md : Region.Mode) (ops : Array Oper) (Φ : List (Value → World → Prop)) (a0 : Act) (w0 : World) (K : List Nat) (m : Nat) (listed : Array Bool) (a : Act) (w : World) : Prop where
  size : listed.size = ops.size
  but : But K w0 w
  evm : listed.getD m false = false → Ev w0 w
  defers : a.defers = a0.defers
  slots : a.tmps.size = a0.tmps.size
  closed : ∀ i j, listed.getD i false = true → preds md ops i j = true → listed.getD j false = true
  keep : ∀ d, (∀ i, listed.getD i false = true → dstAt ops i ≠ some d) → a.eval (.tmp d) = a0.eval (.tmp d)
  done : ∀ i d, listed.getD i false = true → dstAt ops i = some d → factAt Φ i (a.eval (.tmp d)) w

theorem MidB.step (ht : tidy md ops a0.tmps.size = true) (hm : AllMono Φ) (hmb : AllMonoB md ops K m 0 Φ) {listed : Array Bool} {a : Act} {w w' : World} (h : MidB md ops Φ a0 w0 K m listed a w) {i : Nat} {o : Oper} (ho : ops[i]? = some o)
    (hr : i ∈ Region.ready md ops listed) {v : Value} (hun : listed.getD i false = false) (hE : Turns K m i w w') (hv : factAt Φ i v w') : MidB md ops Φ a0 w0 K m (listed.setIfInBounds i true) (a.put o.dst v) w' := by
  have hi : i < ops.size := (Array.getElem?_eq_some_iff.1 ho).1
  have hdi : dstAt ops i = o.dst := by simp [dstAt, ho]
  have hset : ∀ j, (listed.setIfInBounds i true).getD j false = true → j = i ∨ listed.getD j false = true := by
    intro j hj
    by_cases hij : i = j
    · exact .inl hij.symm
    · rw [getD_set_ne false hij] at hj; exact .inr hj
  have hmm : (listed.setIfInBounds i true).getD m false = false → i ≠ m ∧ listed.getD m false = false := by
    intro hf
    have hne : i ≠ m := by
      rintro rfl
      simp [h.size, hi] at hf
    rw [getD_set_ne false hne] at hf
    exact ⟨hne, hf⟩
  refine ⟨by simpa using h.size, h.but.then hE.but, fun hf => (h.evm (hmm hf).2).trans (hE.ev (hmm hf).1), by rw [defers_put]; exact h.defers, by rw [size_put]; exact h.slots, ?_, ?_, ?_⟩
  · intro j k hj hp
    apply getD_set_true
    rcases hset j hj with rfl | hj'
    · obtain ⟨_, o', ho', hall⟩ := mem_ready.1 hr
      rw [ho] at ho'
      obtain rfl := Option.some.inj ho'
      unfold preds at hp
      simp only [ho] at hp
      obtain ⟨e, he, hb⟩ := Array.any_eq_true'.1 hp
      simp only [Bool.and_eq_true, beq_iff_eq] at hb
      rw [← hb.2]
      exact hall e he hb.1
    · exact h.closed j k hj' hp
  · intro d hd
    have hne : o.dst ≠ some d := by
      rw [← hdi]
      exact hd i (by simp [h.size, hi])
    rw [eval_put_other hne]
    exact h.keep d fun j hj => hd j (getD_set_true hj)
  · intro j d hj hd
    rcases hset j hj with rfl | hj'
    · rw [hdi] at hd
      rw [hd]
      have hsz := (tidy_dst ht (by rw [hdi]; exact hd)).1
      rw [eval_put_same (by rw [h.slots]; exact hsz)]
      exact hv
    · by_cases hij : j = i
      · subst hij
        rw [hdi] at hd
        rw [hd]
        have hsz := (tidy_dst ht (by rw [hdi]; exact hd)).1
        rw [eval_put_same (by rw [h.slots]; exact hsz)]
        exact hv
      · have hne : o.dst ≠ some d := by
          rw [← hdi]
          exact (tidy_dst ht hd).2 i (fun e => hij e.symm)
        rw [eval_put_other hne]
        by_cases him : i = m
        · subst him
          refine factAt_monoB Φ 0 hmb j (by omega) ?_ _ _ _ hE.but (h.done j d hj' hd)
          rw [Nat.zero_add]
          cases hpm : preds md ops j i
          · rfl
          · have := h.closed j i hj' hpm
            rw [hun] at this; cases this
        · exact factAt_mono Φ hm j _ _ _ (hE.ev him) (h.done j d hj' hd)

end
end Go.Proofs.YtojbahjebfcmgaaGreatDoor
