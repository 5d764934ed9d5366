/-
  A frame with exceptions: of the blocks that were there only those in a list may have turned. And appending to a row of bytes, with its footprint: the row's block, or a new one. Of the program only the number of the type uint8 is used.
-/
import Derived.Test.YtdfoangkjeoomaaMem
import Derived.Maps.AppendAt
import Derived.Lib.AppendStr
import Derived.Lib.Hide
namespace Go.Proofs.Ytdfoangkjeoomaa
open Go.RowKit
set_option linter.unusedVariables false

/-- Of what was there only blocks of K may have turned. -/
structure But (K : List Nat) (w w' : World) : Prop where
  os : w'.os = w.os
  tape : w'.tape = w.tape
  output : w'.output = w.output
  size : w.heap.size ≤ w'.heap.size
  block : ∀ k, k < w.heap.size → k ∉ K → w'.heap[k]? = w.heap[k]?

theorem But.refl (K : List Nat) (w : World) : But K w w := ⟨rfl, rfl, rfl, Nat.le_refl _, fun _ _ _ => rfl⟩
theorem But.trans {K K' : List Nat} {a b c : World} (h : But K a b) (k : But K' b c) (hs : ∀ x ∈ K', x ∈ K ∨ a.heap.size ≤ x) : But K a c :=
  ⟨k.os.trans h.os, k.tape.trans h.tape, k.output.trans h.output, Nat.le_trans h.size k.size, fun i hi hn => by
    rw [k.block i (Nat.lt_of_lt_of_le hi h.size) (fun hm => (hs i hm).elim hn (fun h1 => by omega)), h.block i hi hn]⟩
theorem But.then {K : List Nat} {a b c : World} (h : But K a b) (k : But K b c) : But K a c := h.trans k fun _ hx => .inl hx
theorem But.of_ev {K : List Nat} {w w' : World} (h : Ev w w') : But K w w' := ⟨h.os, h.tape, h.output, h.size, fun k hk _ => h.block k hk⟩
theorem But.below {K : List Nat} {w w' : World} {B : Nat} (h : But K w w') (hB : B ≤ w.heap.size) (hK : ∀ k ∈ K, B ≤ k) : Below B w w' :=
  ⟨h.os, h.tape, h.output, h.size, fun k hk => h.block k (by omega) fun hm => by have := hK k hm; omega⟩
theorem But.ev {K : List Nat} {w w' : World} (h : But K w w') (hK : ∀ k ∈ K, w.heap.size ≤ k) : Ev w w' := h.below (Nat.le_refl _) hK
theorem But.wide {K K' : List Nat} {w w' : World} (h : But K w w') (hs : ∀ x ∈ K, x ∈ K' ∨ w.heap.size ≤ x) : But K' w w' :=
  (But.refl K' w).trans h hs
theorem But.setCell {K : List Nat} {w : World} (p : Addr) (v : Value) (h : p.block ∈ K) : But K w (w.setCell p v) :=
  ⟨rfl, rfl, rfl, by simp [World.setCell], fun k _ hn => Below.heap_setCell _ _ _ _ fun e => hn (e ▸ h)⟩
theorem But.grown {K : List Nat} {w w' : World} {row : Option Nat} (h : w.grownBy w' row) (hr : ∀ g, row = some g → g ∈ K) : But K w w' :=
  ⟨h.os, h.tape, h.output, h.size, fun k hk hn => h.block k hk fun e => hn (hr k e.symm)⟩
theorem But.heap {K : List Nat} {w w' : World} (h : But K w w') {k : Nat} {o : Obj} (hk : w.heap[k]? = some o) (hn : k ∉ K) : w'.heap[k]? = some o := by
  rw [h.block k (Array.getElem?_eq_some_iff.1 hk).1 hn]; exact hk
theorem But.alloc {K : List Nat} {w : World} (o : Obj) : But K w (w.alloc o) := .of_ev (Ev.alloc w o)
theorem But.drew {K : List Nat} {w : World} : But K w w.drew := .of_ev (Ev.drew w)

theorem Bs.but {K : List Nat} {w w' : World} {A : Option Addr} {n cap : Nat} {l : List UInt8} (h : Bs w A n cap l) (hb : But K w w') (hA : ∀ ad, A = some ad → ad.block ∉ K) : Bs w' A n cap l :=
  ⟨h.len, h.le, h.max, h.nil, fun hn => by
    obtain ⟨b, off, e, hlt, hc⟩ := h.rd hn
    refine ⟨b, off, e, Nat.lt_of_lt_of_le hlt hb.size, fun i hi => ?_⟩
    rw [World.cell?_of_block (w := w) (hb.block b hlt (hA _ e))]
    exact hc i hi⟩

/-- v is a slice that holds l, in a row of its own or nowhere. -/
def Row (w : World) (v : Value) (l : List UInt8) : Prop := w.ownsRow 0 5 1 v l.length (bvs l)
/-- The row of v' is that of v, or a new one. -/
def Sprung (w : World) (v v' : Value) : Prop := ∀ g, v'.ownBlock = some g → v.ownBlock = some g ∨ w.heap.size ≤ g
theorem Sprung.refl (w : World) (v : Value) : Sprung w v v := fun _ h => .inl h
theorem Sprung.trans {w w1 : World} {a b c : Value} (h : Sprung w a b) (k : Sprung w1 b c) (hs : w.heap.size ≤ w1.heap.size) : Sprung w a c := fun g hg => by
  rcases k g hg with h1 | h1
  · exact h g h1
  · exact .inr (by omega)
/-- The blocks that a write to v may turn. -/
def foot (v : Value) : List Nat := v.ownBlock.toList
theorem mem_foot {v : Value} {g : Nat} : g ∈ foot v ↔ v.ownBlock = some g := by
  unfold foot
  cases v.ownBlock <;> simp [eq_comm]

theorem Row.nil_ (w : World) : Row w (.slice none 0 0) [] := World.ownsRow_nil _ _ _ _
theorem Row.of {w : World} {base n : Nat} {v : Value} {l : List UInt8} (h : w.ownsRow base 5 1 v n (bvs l)) : Row w v l := by
  have hn : l.length = n := by have := h.1; simpa [bvs] using this
  subst hn
  refine ⟨h.1, ?_⟩
  rcases h.2 with h2 | ⟨g, cap, cur, hv, hg, r⟩
  · exact .inl h2
  · exact .inr ⟨g, cap, cur, hv, Nat.zero_le _, r⟩
theorem Row.but {K : List Nat} {w w' : World} {v : Value} {l : List UInt8} (h : Row w v l) (hb : But K w w') (hn : ∀ g, v.ownBlock = some g → g ∉ K) : Row w' v l := by
  refine ⟨h.1, ?_⟩
  rcases h.2 with h2 | ⟨g, cap, cur, rfl, hg, hh, r⟩
  · exact .inl h2
  · exact .inr ⟨g, cap, cur, rfl, hg, hb.heap hh (hn g rfl), r⟩
theorem Row.ev {w w' : World} {v : Value} {l : List UInt8} (h : Row w v l) (hb : Ev w w') : Row w' v l := h.but (But.of_ev (K := []) hb) (fun _ _ => by simp)
theorem Row.lt {w : World} {v : Value} {l : List UInt8} (h : Row w v l) {g : Nat} (hg : v.ownBlock = some g) : g < w.heap.size := (World.ownsRow.lt (show w.ownsRow _ _ _ _ _ _ from h) g hg).2
theorem Row.bs {w : World} {v : Value} {l : List UInt8} (h : Row w v l) : ∃ A cap, v = .slice A l.length cap ∧ Bs w A l.length cap l ∧ (∀ ad, A = some ad → v.ownBlock = some ad.block) ∧ (A = none → cap = 0) := by
  rcases h.2 with ⟨rfl, hn⟩ | ⟨g, cap, cur, rfl, _⟩
  · refine ⟨none, 0, by rw [hn], ?_, by simp, fun _ => rfl⟩
    have := h
    unfold Row at this
    rw [hn] at this ⊢
    exact Bs.own this
  · exact ⟨_, _, rfl, Bs.own h, by rintro ad ⟨⟩; rfl, by simp⟩
theorem Row.form {w : World} {v : Value} {l : List UInt8} (h : Row w v l) : ∃ A n cap, v = .slice A n cap := by
  obtain ⟨A, cap, rfl, _⟩ := h.bs
  exact ⟨_, _, _, rfl⟩
theorem Row.ne_block {w : World} {v : Value} {l : List UInt8} (h : Row w v l) {b : Nat} {cs : Array Value} {T : TypeId} {fr : Nat × Nat} (hb : w.heap[b]? = some (.cells cs T fr)) (hT : T ≠ 5) : v.ownBlock ≠ some b := by
  intro e
  rcases h.2 with ⟨rfl, _⟩ | ⟨g, cap, cur, rfl, _, hg, _⟩
  · cases e
  · simp only [Value.ownBlock, Option.some.injEq] at e
    subst e
    rw [hb] at hg
    simp only [Option.some.injEq, Obj.cells.injEq] at hg
    exact hT hg.2.1

/-- append of a slice of bytes onto a row of the call's own. -/
theorem run_append_row {P : Program} {w : World} (ty : TypeId)
    (ht : P.underlying 32 = some (.slice 5)) (hi : (P.info? 5).map (fun i => (i.zero, i.size, i.bytes)) = some (some (.int .u8 0), 1, 1))
    (v : Value) (xs : List UInt8) (hown : Row w v xs) (A : Option Addr) (m c : Nat) (l : List UInt8) (hB : Bs w A m c l) (hbytes : xs.length + l.length ≤ 140737488355328) :
    ∃ v' w', (Builtin.append_ #[32, 32] ty #[v, .slice A m c]).run P w = .ok v' w' ∧ Row w' v' (xs ++ l) ∧ But (foot v) w w' ∧ Sprung w v v' := by
  obtain ⟨i, hi0, hz, hsz, hby⟩ := info_parts hi
  have hl := hB.len
  cases A with
  | none =>
    obtain ⟨h0, h1⟩ := hB.nil rfl
    subst h0; subst h1
    have hnil : l = [] := List.eq_nil_of_length_eq_zero hl
    subst hnil
    exact ⟨v, w, run_append_owned_none (P := P) (w := w) 0 32 ty 5 i 1 ht hi0 v _ _ hown, by simpa using hown, But.refl _ _, Sprung.refl _ _⟩
  | some ad =>
    obtain ⟨v', w', hr, h1, h2, _, h4⟩ := run_append_own_at (P := P) w 0 32 ty 5 i (.int .u8 0) 1 1 ht hi0 hz hsz hby rfl (by decide) v xs.length (bvs xs) hown ad m c (bvs l) (by rw [bvs_length, hl]; omega) (hB.cells ad rfl) (bvs_one l) (by unfold maxLen; omega) (by omega) (Nat.zero_le _)
    refine ⟨v', w', hr, Row.of (base := 0) (n := xs.length + m) (by rw [bvs_append]; exact h1), But.grown h2 (fun g hg => mem_foot.2 hg), fun g hg => ?_⟩
    rcases h4 with h4 | h4
    · exact .inl (h4 ▸ hg)
    · rw [h4] at hg; simp at hg; exact .inr (by omega)

theorem wpList_append_row {P : Program} {w : World} {ops : Array Oper} {rest : List Oper} {o : Oper} {a : Act} {Q : Exit → Act → World → Prop} (hgd : o.guard = none) (s x : Operand)
    (ho : o.op = .call { callee := .builtin .append, args := #[s, x], argTypes := #[32, 32] })
    (ht : P.underlying 32 = some (.slice 5)) (hi : (P.info? 5).map (fun i => (i.zero, i.size, i.bytes)) = some (some (.int .u8 0), 1, 1))
    (v : Value) (xs : List UInt8) (hs : a.eval s = v) (hown : Row w v xs) (A : Option Addr) (m c : Nat) (l : List UInt8) (hx : a.eval x = .slice A m c) (hB : Bs w A m c l) (hbytes : xs.length + l.length ≤ 140737488355328)
    (h : ∀ v' w', Row w' v' (xs ++ l) → But (foot v) w w' → Sprung w v v' → wpList P ops Q rest (a.put o.dst v') w') : wpList P ops Q (o :: rest) a w := by
  refine wpList_plain hgd fun K hK => ?_
  obtain ⟨v', w', hr, h2, h3, h4⟩ := run_append_row (P := P) (w := w) o.type ht hi v xs hown A m c l hB hbytes
  unfold Oper.wp execOp
  simp only [ho, resolve, invoke, builtin, Sem.run_bind, Sem.run_pure, Result.andThen_ok, List.map_toArray, List.map_cons, List.map_nil, hs, hx, hr]
  exact hK _ _ (h v' w' h2 h3 h4)

theorem strCells_bvs (s : ByteArray) : Lib.strCells s = bvs s.data.toList := by
  simp [Lib.strCells, bvs]
  intro a _
  rfl

/-- append of a string onto a row of the call's own. -/
theorem run_append_str {P : Program} {w : World} (ty : TypeId)
    (ht : P.underlying 32 = some (.slice 5)) (hu : P.underlying 9 = some .string) (hi : (P.info? 5).map (fun i => (i.zero, i.size, i.bytes)) = some (some (.int .u8 0), 1, 1))
    (v : Value) (xs : List UInt8) (hown : Row w v xs) (s : ByteArray) (hbytes : xs.length + s.size ≤ 140737488355328) :
    ∃ v' w', (Builtin.append_ #[32, 9] ty #[v, .string s]).run P w = .ok v' w' ∧ Row w' v' (xs ++ s.data.toList) ∧ But (foot v) w w' ∧ Sprung w v v' := by
  obtain ⟨i, hi0, hz, hsz, hby⟩ := info_parts hi
  obtain ⟨v', w', hr, h1, h2, _⟩ := Lib.run_append_own_string (P := P) w 0 32 9 ty 5 i ht hu hi0 hz hsz hby v xs.length (bvs xs) hown s (by unfold maxLen; omega) hbytes (Nat.zero_le _)
  refine ⟨v', w', hr, Row.of (base := 0) (n := xs.length + s.size) (by rw [bvs_append, ← strCells_bvs]; exact h1), But.grown h2 (fun g hg => mem_foot.2 hg), ?_⟩
  rcases hown.2 with ⟨rfl, _⟩ | ⟨g, cap, cur, rfl, _, hg, hnc, hcm, hcs, htake⟩
  · have hx : xs = [] := by
      have h0 : xs.length = 0 := by assumption
      exact List.eq_nil_of_length_eq_zero h0
    subst hx
    obtain ⟨v2, w2, hr2, h3, _, _⟩ := Lib.run_append_own_string (P := P) w w.heap.size 32 9 ty 5 i ht hu hi0 hz hsz hby (.slice none 0 0) 0 [] (World.ownsRow_nil _ _ _ _) s (by unfold maxLen; simp at hbytes; omega) (by simpa using hbytes) (Nat.le_refl _)
    rw [hr] at hr2
    simp only [Result.ok.injEq] at hr2
    obtain ⟨rfl, rfl⟩ := hr2
    exact fun g hg => .inr (h3.lt g hg).1
  · by_cases hroom : xs.length + s.size ≤ cap
    · have hr2 := Lib.run_append_room_string (P := P) w 32 9 ty 5 i ht hu hi0 hsz g xs.length cap cur hg s hroom (by omega)
      rw [hr] at hr2
      simp only [Result.ok.injEq] at hr2
      obtain ⟨rfl, _⟩ := hr2
      exact fun g hg => .inl hg
    · have hr2 := Lib.run_append_grow_string (P := P) w 32 9 ty 5 i (.int .u8 0) ht hu hi0 hz ⟨g, 0, none⟩ xs.length cap (bvs xs) (by rw [hsz]; simp [bvs]) (World.ownsRow.cells hown rfl) s (by omega) (by omega) (by rw [hby]; exact growslice_fits (by omega) (by omega))
      rw [hr] at hr2
      simp only [Result.ok.injEq] at hr2
      obtain ⟨rfl, _⟩ := hr2
      exact fun g' hg' => .inr (by simp [Value.ownBlock] at hg'; omega)

theorem wpList_append_str {P : Program} {w : World} {ops : Array Oper} {rest : List Oper} {o : Oper} {a : Act} {Q : Exit → Act → World → Prop} (hgd : o.guard = none) (s x : Operand)
    (ho : o.op = .call { callee := .builtin .append, args := #[s, x], argTypes := #[32, 9] })
    (ht : P.underlying 32 = some (.slice 5)) (hu : P.underlying 9 = some .string) (hi : (P.info? 5).map (fun i => (i.zero, i.size, i.bytes)) = some (some (.int .u8 0), 1, 1))
    (v : Value) (xs : List UInt8) (hs : a.eval s = v) (hown : Row w v xs) (t : ByteArray) (hx : a.eval x = .string t) (hbytes : xs.length + t.size ≤ 140737488355328)
    (h : ∀ v' w', Row w' v' (xs ++ t.data.toList) → But (foot v) w w' → Sprung w v v' → wpList P ops Q rest (a.put o.dst v') w') : wpList P ops Q (o :: rest) a w := by
  refine wpList_plain hgd fun K hK => ?_
  obtain ⟨v', w', hr, h2, h3, h4⟩ := run_append_str (P := P) (w := w) o.type ht hu hi v xs hown t hbytes
  unfold Oper.wp execOp
  simp only [ho, resolve, invoke, builtin, Sem.run_bind, Sem.run_pure, Result.andThen_ok, List.map_toArray, List.map_cons, List.map_nil, hs, hx, hr]
  exact hK _ _ (h v' w' h2 h3 h4)
end Go.Proofs.Ytdfoangkjeoomaa
