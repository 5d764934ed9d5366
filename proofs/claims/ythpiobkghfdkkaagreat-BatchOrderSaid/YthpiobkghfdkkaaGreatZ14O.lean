/-
  Texts that belong together: Sets of rows in memory: a slice of items that reads as a list; own slices of items, and what append makes of them.
-/
import Derived.Test.YthpiobkghfdkkaaGreatZ8O
import Derived.Test.YthpiobkghfdkkaaGreatZ5O
import Derived.Test.YthpiobkghfdkkaaGreatZ3O
namespace Go.Proofs.YthpiobkghfdkkaaGreat
open Go.RowKit
set_option linter.unusedVariables false

/-- An item: its row, how often it is added, how often removed. -/
abbrev I := List V × Int × Int
/-- An item as it lies in memory: where its row lies, and the item. -/
abbrev J := (Option Addr × Nat × Nat) × I
def keyI (x : I) : List V := x.1
def keyJ (x : J) : List V := x.2.1
def jrow (x : J) : Value := .slice x.1.1 x.1.2.1 x.1.2.2
def jtal (x : J) : Value := .complex .f64 (fl x.2.2.1) (fl x.2.2.2)
def jcells (x : J) : List Value := [jrow x, jtal x]
/-- The item as a value. -/
def jv (x : J) : Value := .agg #[jrow x, jtal x]
abbrev Js := Sl 2 jcells

theorem Sl.below0 {α : Type} {k : Nat} {enc : α → List Value} {b0 : Nat} {w w' : World} {A : Option Addr} {n cap : Nat} {l : List α} (h : Sl k enc w A n cap l) (hb : Below b0 w w') (hA : ∀ ad, A = some ad → ad.block < b0) : Sl k enc w' A n cap l :=
  ⟨h.len, h.le, h.max, h.nil, fun hn => by
    obtain ⟨b, off, e, hlt, hc⟩ := h.rd hn
    have h0 := hA _ e
    exact ⟨b, off, e, Nat.lt_of_lt_of_le hlt hb.size, fun i x hx j u hu => (hb.cell (p := ⟨b, off + i * k + j, none⟩) h0).trans (hc i x hx j u hu)⟩⟩
/-- The address of 'b[k:]' of a slice whose elements take s cells, in the walk's own spelling. -/
def fromS (s : Nat) (A : Option Addr) (cap k : Nat) : Option Addr := if cap = k then A else Option.map (fun x => x.add (k * s)) A
theorem Sl.from_ {α : Type} {k : Nat} {enc : α → List Value} {w : World} {A : Option Addr} {n cap : Nat} {l : List α} (h : Sl k enc w A n cap l) {j : Nat} (hj : j ≤ n) : Sl k enc w (fromS k A cap j) (n - j) (cap - j) (l.drop j) :=
  ⟨by rw [List.length_drop, h.len], by have := h.le; omega, by have := h.max; omega,
   fun e => by
    have := h.le
    unfold fromS at e
    split at e
    · omega
    · have := h.nil (by simpa using e); omega,
   fun h0 => by
    obtain ⟨b, off, rfl, hlt, hc⟩ := h.rd (by omega)
    have := h.le
    unfold fromS
    rw [if_neg (by omega)]
    refine ⟨b, off + j * k, by rw [Option.map_some, Addr.add_lit], hlt, fun i x hx q u hu => ?_⟩
    have hx' : l[j + i]? = some x := by rw [← hx, List.getElem?_drop]
    have := hc (j + i) x hx' q u hu
    rwa [Nat.add_mul, ← Nat.add_assoc] at this⟩

/-- A row lies below block b0 (and so it stays). -/
def RowLies (b0 : Nat) (w : World) (z : J) : Prop := Vs w z.1.1 z.1.2.1 z.1.2.2 z.2.1 ∧ ∀ ad, z.1.1 = some ad → ad.block < b0
theorem RowLies.below {b0 : Nat} {w w' : World} {z : J} (h : RowLies b0 w z) (hb : Below b0 w w') : RowLies b0 w' z := ⟨h.1.below0 hb h.2, h.2⟩

/-- The slice (A, n, cap) holds the items Z; all of it lies below block b0. -/
structure Zs (b0 : Nat) (w : World) (A : Option Addr) (n cap : Nat) (Z : List J) : Prop where
  js : Js w A n cap Z
  rows : ∀ z ∈ Z, RowLies b0 w z
  low : ∀ ad, A = some ad → ad.block < b0
  base : b0 ≤ w.heap.size

section
variable {b0 : Nat} {w w' : World} {A : Option Addr} {n cap : Nat} {Z : List J}
theorem Zs.below (h : Zs b0 w A n cap Z) (hb : Below b0 w w') : Zs b0 w' A n cap Z :=
  ⟨h.js.below0 hb h.low, fun z hz => (h.rows z hz).below hb, h.low, Nat.le_trans h.base hb.size⟩
theorem Zs.ev (h : Zs b0 w A n cap Z) (hb : Ev w w') : Zs b0 w' A n cap Z := h.below (Below.mono hb h.base)
theorem Zs.wide {b1 : Nat} (h : Zs b0 w A n cap Z) (h1 : b0 ≤ b1) (h2 : b1 ≤ w.heap.size) : Zs b1 w A n cap Z :=
  ⟨h.js, fun z hz => ⟨(h.rows z hz).1, fun ad e => Nat.lt_of_lt_of_le ((h.rows z hz).2 ad e) h1⟩, fun ad e => Nat.lt_of_lt_of_le (h.low ad e) h1, h2⟩
theorem Zs.to (h : Zs b0 w A n cap Z) (k : Nat) (hk : k ≤ n) : Zs b0 w A k cap (Z.take k) :=
  ⟨h.js.to k hk, fun z hz => h.rows z (List.mem_of_mem_take hz), h.low, h.base⟩
theorem Zs.from_ (h : Zs b0 w A n cap Z) {k : Nat} (hk : k ≤ n) : Zs b0 w (fromS 2 A cap k) (n - k) (cap - k) (Z.drop k) :=
  ⟨h.js.from_ hk, fun z hz => h.rows z (List.mem_of_mem_drop hz), fun ad e => by
    unfold fromS at e
    split at e
    · exact h.low ad e
    · obtain ⟨x, hx, rfl⟩ := Option.map_eq_some_iff.1 e
      have hxb : (x.add (k * 2)).block = x.block := by unfold Addr.add; split <;> rfl
      rw [hxb]
      exact h.low x hx, h.base⟩
theorem Zs.nil_ (h : b0 ≤ w.heap.size) : Zs b0 w none 0 0 [] := ⟨Sl.nil_ w, fun _ h => (by cases h), fun _ e => (by cases e), h⟩
theorem Zs.len (h : Zs b0 w A n cap Z) : Z.length = n := h.js.len
theorem Zs.le (h : Zs b0 w A n cap Z) : n ≤ cap := h.js.le
theorem Zs.max (h : Zs b0 w A n cap Z) : cap ≤ 9223372036854775807 := h.js.max
/-- Item i. -/
theorem Zs.at (h : Zs b0 w A n cap Z) {i : Nat} (hi : i < n) :
    ∃ b off z, A = some ⟨b, off, none⟩ ∧ b < w.heap.size ∧ b < b0 ∧ Z[i]? = some z ∧ w.cell? ⟨b, off + i * 2, none⟩ = some (jrow z) ∧ w.cell? ⟨b, off + i * 2 + 1, none⟩ = some (jtal z) ∧ Vs w z.1.1 z.1.2.1 z.1.2.2 z.2.1 := by
  obtain ⟨x, hx⟩ := h.js.at hi
  obtain ⟨b, off, e, hlt, hc⟩ := h.js.rd (by omega)
  exact ⟨b, off, x, e, hlt, h.low _ e, hx, hc i x hx 0 _ rfl, hc i x hx 1 _ rfl, (h.rows x (List.mem_of_getElem? hx)).1⟩
end

/-- Laws for drawn regions. -/
theorem run_len_items {ρ : Operand → Value} {o : Oper} {x : Operand} {A : Option Addr} {n cap : Nat} (ho : o.op = .call { callee := .builtin .len, args := #[x], argTypes := #[40] }) (h : ρ x = .slice A n cap) (w : World) :
    (execOp ρ o).run Tryz.prog w = .ok (.value (.int .i64 (n : Int))) w := by
  unfold execOp
  rw [ho]
  simp [h, go_sem]
theorem run_len_set {ρ : Operand → Value} {o : Oper} {x : Operand} {A : Option Addr} {n cap : Nat} (ho : o.op = .call { callee := .builtin .len, args := #[x], argTypes := #[41] }) (h : ρ x = .slice A n cap) (w : World) :
    (execOp ρ o).run Tryz.prog w = .ok (.value (.int .i64 (n : Int))) w := by
  unfold execOp
  rw [ho]
  simp [h, go_sem]
theorem run_from_items {ρ : Operand → Value} {o : Oper} {x : Operand} {A : Option Addr} {n cap : Nat} (k : Nat) {c : Operand} (ho : o.op = .slice 40 x (some c) none none) (h : ρ x = .slice A n cap) (hc : ρ c = .int .i64 (k : Int)) (h0 : 0 < k) (hk : k ≤ n) (w : World) :
    (execOp ρ o).run Tryz.prog w = .ok (.value (.slice (fromS 2 A cap k) (n - k) (cap - k))) w := by
  have h1 : (k : Int) ≤ (n : Int) := by omega
  have h2 : (0 : Int) ≤ (k : Int) := by omega
  have ht : Tryz.prog.underlying 40 = some (.slice (Tryz.prog.elem 40)) := by kernel_rfl
  have hs : (sizeOf (Tryz.prog.elem 40)).run Tryz.prog w = .ok 2 w := by kernel_rfl
  unfold execOp
  rw [ho]
  simp [h, hc, run_sliceAt_slice w 40 _ _ _ _ ht, run_slice_l w 40 A n cap ht .i64 (k : Int) h2 h1, hs, Result.andThen, sliced, fromS]
theorem run_to_items {ρ : Operand → Value} {o : Oper} {x : Operand} {A : Option Addr} {n cap : Nat} (k : Nat) {c : Operand} (ho : o.op = .slice 40 x none (some c) none) (h : ρ x = .slice A n cap) (hc : ρ c = .int .i64 (k : Int)) (hk : k ≤ cap) (w : World) :
    (execOp ρ o).run Tryz.prog w = .ok (.value (.slice A k cap)) w := by
  have h1 : (k : Int) ≤ (cap : Int) := by omega
  have h2 : (0 : Int) ≤ (k : Int) := by omega
  have ht : Tryz.prog.underlying 40 = some (.slice (Tryz.prog.elem 40)) := by kernel_rfl
  have hs : (sizeOf (Tryz.prog.elem 40)).run Tryz.prog w = .ok 2 w := by kernel_rfl
  unfold execOp
  rw [ho]
  simp [h, hc, run_sliceAt_slice w 40 _ _ _ _ ht, run_slice_h w 40 A n cap ht .i64 (k : Int) h2 h1, hs, Result.andThen, sliced, Addr.add]
theorem run_load_item {ρ : Operand → Value} {o : Oper} {x : Operand} {b off : Nat} {z : J} {w : World} (ho : o.op = .load 62 x) (hx : ρ x = .pointer (some ⟨b, off, none⟩))
    (c0 : w.cell? ⟨b, off, none⟩ = some (jrow z)) (c1 : w.cell? ⟨b, off + 1, none⟩ = some (jtal z)) :
    (execOp ρ o).run Tryz.prog w = .ok (.value (jv z)) w := by
  unfold execOp
  rw [ho]
  simp [hx, go_sem, c0, c1]
  rfl

/-- Own slices of items. -/
def jlist (l : List J) : List Value := l.flatMap jcells
theorem jlist_length (l : List J) : (jlist l).length = l.length * 2 := by
  induction l with
  | nil => rfl
  | cons x l ih =>
    have : (jlist (x :: l)).length = 2 + (jlist l).length := by simp [jlist, jcells]; omega
    rw [this, ih, List.length_cons]; omega
theorem jlist_append (l m : List J) : jlist (l ++ m) = jlist l ++ jlist m := by simp [jlist]
theorem jlist_get : ∀ (l : List J) (i : Nat) (x : J), l[i]? = some x → ∀ j u, (jcells x)[j]? = some u → (jlist l)[i * 2 + j]? = some u
  | [], _, _, h, _, _, _ => by simp at h
  | y :: l, 0, x, h, j, u, hu => by
    simp at h
    subst h
    have hj : j < 2 := (List.getElem?_eq_some_iff.1 hu).1
    have e : jlist (y :: l) = jcells y ++ jlist l := rfl
    rw [e, Nat.zero_mul, Nat.zero_add, List.getElem?_append_left (by simpa [jcells] using hj)]
    exact hu
  | y :: l, i + 1, x, h, j, u, hu => by
    have e : jlist (y :: l) = jcells y ++ jlist l := rfl
    have hl : (jcells y).length = 2 := rfl
    rw [e, List.getElem?_append_right (by rw [hl]; omega), hl, show (i + 1) * 2 + j - 2 = i * 2 + j by omega]
    exact jlist_get l i x (by simpa using h) j u hu
theorem jlist_back : ∀ (l : List J) (q : Nat) (u : Value), (jlist l)[q]? = some u → ∃ x, l[q / 2]? = some x ∧ (jcells x)[q % 2]? = some u
  | [], q, u, h => by simp [jlist] at h
  | y :: l, q, u, h => by
    have e : jlist (y :: l) = jcells y ++ jlist l := rfl
    have hl : (jcells y).length = 2 := rfl
    rw [e] at h
    by_cases hq : q < 2
    · rw [List.getElem?_append_left (by rw [hl]; exact hq)] at h
      refine ⟨y, by rw [Nat.div_eq_of_lt hq]; rfl, ?_⟩
      rw [Nat.mod_eq_of_lt hq]
      exact h
    · rw [List.getElem?_append_right (by rw [hl]; omega), hl] at h
      obtain ⟨x, h1, h2⟩ := jlist_back l (q - 2) u h
      refine ⟨x, ?_, ?_⟩
      · rw [show q / 2 = (q - 2) / 2 + 1 by omega]
        simpa using h1
      · rw [show q % 2 = (q - 2) % 2 by omega]
        exact h2
theorem jlist_one (l : List J) : ∀ u ∈ jlist l, u.oneCell' = true := by
  intro u hu
  obtain ⟨x, _, hx⟩ := List.mem_flatMap.1 hu
  simp [jcells] at hx
  rcases hx with rfl | rfl <;> rfl

/-- v is a slice of its own that holds the items Z; the rows lie elsewhere. -/
structure Zrow (w : World) (v : Value) (Z : List J) : Prop where
  own : w.ownsRow 0 62 2 v Z.length (jlist Z)
  rows : ∀ z ∈ Z, Vs w z.1.1 z.1.2.1 z.1.2.2 z.2.1 ∧ ∀ ad, z.1.1 = some ad → ad.block < w.heap.size ∧ v.ownBlock ≠ some ad.block
theorem Zrow.nil_ (w : World) : Zrow w (.slice none 0 0) [] := ⟨World.ownsRow_nil _ _ _ _, fun _ h => by cases h⟩
theorem Zrow.but {K : List Nat} {w w' : World} {v : Value} {Z : List J} (h : Zrow w v Z) (hb : But K w w') (hn : ∀ g, v.ownBlock = some g → g ∉ K) (hz : ∀ z ∈ Z, ∀ ad, z.1.1 = some ad → ad.block ∉ K) : Zrow w' v Z := by
  refine ⟨⟨h.own.1, ?_⟩, fun z hzz => ⟨(h.rows z hzz).1.but hb (hz z hzz), fun ad e => ⟨Nat.lt_of_lt_of_le ((h.rows z hzz).2 ad e).1 hb.size, ((h.rows z hzz).2 ad e).2⟩⟩⟩
  rcases h.own.2 with h2 | ⟨g, cap, cur, rfl, hg, hh, r⟩
  · exact .inl h2
  · exact .inr ⟨g, cap, cur, rfl, hg, hb.heap hh (hn g rfl), r⟩
theorem Zrow.ev {w w' : World} {v : Value} {Z : List J} (h : Zrow w v Z) (hb : Ev w w') : Zrow w' v Z := h.but (But.of_ev (K := []) hb) (fun _ _ => by simp) (fun _ _ _ _ => by simp)
theorem Zrow.lt {w : World} {v : Value} {Z : List J} (h : Zrow w v Z) {g : Nat} (hg : v.ownBlock = some g) : g < w.heap.size := (World.ownsRow.lt h.own g hg).2
theorem Zrow.form {w : World} {v : Value} {Z : List J} (h : Zrow w v Z) : ∃ A cap, v = .slice A Z.length cap ∧ Zs w.heap.size w A Z.length cap Z ∧ (∀ ad, A = some ad → v.ownBlock = some ad.block) := by
  rcases h.own.2 with ⟨rfl, hn⟩ | ⟨g, cap, cur, rfl, hb, hg, hnc, hcm, hcs, ht⟩
  · have hl : Z = [] := List.eq_nil_of_length_eq_zero hn
    subst hl
    exact ⟨none, 0, rfl, Zs.nil_ (Nat.le_refl _), by simp⟩
  · refine ⟨_, _, rfl, ⟨⟨rfl, hnc, by simpa [maxLen] using hcm, by simp, fun h0 => ⟨g, 0, rfl, (Array.getElem?_eq_some_iff.1 hg).1, fun i x hx j u hu => ?_⟩⟩, fun z hz => ⟨(h.rows z hz).1, fun ad e => ((h.rows z hz).2 ad e).1⟩, ?_, Nat.le_refl _⟩, by rintro ad ⟨⟩; rfl⟩
    · have hi := (List.getElem?_eq_some_iff.1 hx).1
      have hj : j < 2 := (List.getElem?_eq_some_iff.1 hu).1
      have := World.ownsRow.cellAt h.own (i * 2 + j) (by omega)
      rw [Nat.zero_add, this]
      exact jlist_get Z i x hx j u hu
    · rintro ad ⟨⟩
      exact (Array.getElem?_eq_some_iff.1 hg).1
theorem Tryz.infoItem : (Tryz.prog.info? 62).map (fun i => (i.zero, i.size, i.bytes)) = some (some (.agg #[.slice none 0 0, .complex .f64 0 0]), 2, 40) := by kernel_rfl

/-- append of items onto a slice of the call's own. -/
theorem run_append_items {P : Program} {w : World} (T ty : TypeId)
    (ht : P.underlying T = some (.slice 62)) (hi : (P.info? 62).map (fun i => (i.zero, i.size, i.bytes)) = some (some (.agg #[.slice none 0 0, .complex .f64 0 0]), 2, 40))
    (v : Value) (xs : List J) (hown : Zrow w v xs) (A : Option Addr) (m c : Nat) (l : List J) (hB : Js w A m c l)
    (hr : ∀ z ∈ l, Vs w z.1.1 z.1.2.1 z.1.2.2 z.2.1 ∧ ∀ ad, z.1.1 = some ad → ad.block < w.heap.size ∧ v.ownBlock ≠ some ad.block) (hbytes : (xs.length + l.length) * 40 ≤ 140737488355328) :
    ∃ v' w', (Builtin.append_ #[T, T] ty #[v, .slice A m c]).run P w = .ok v' w' ∧ Zrow w' v' (xs ++ l) ∧ But (foot v) w w' ∧ Sprung w v v' := by
  obtain ⟨i, hi0, hz, hsz, hby⟩ := info_parts hi
  have hl := hB.len
  cases A with
  | none =>
    obtain ⟨h0, h1⟩ := hB.nil rfl
    subst h0; subst h1
    have hnil : l = [] := List.eq_nil_of_length_eq_zero hl
    subst hnil
    exact ⟨v, w, run_append_owned_none (P := P) (w := w) 0 T ty 62 i 2 ht hi0 v _ _ hown.own, by simpa using hown, But.refl _ _, Sprung.refl _ _⟩
  | some ad =>
    have hcells : ∀ j u, (jlist l)[j]? = some u → w.cell? (ad.add j) = some u := by
      intro q u hu
      obtain ⟨x, hx, hxu⟩ := jlist_back l q u hu
      have hq := (List.getElem?_eq_some_iff.1 hx).1
      obtain ⟨b, off, e, _, hc⟩ := hB.rd (by omega)
      obtain rfl := Option.some.inj e
      have := hc (q / 2) x hx (q % 2) u hxu
      rw [Addr.add_lit]
      rwa [show off + q / 2 * 2 + q % 2 = off + q by omega] at this
    obtain ⟨v', w', hr', h1, h2, _, h4⟩ := run_append_own_at (P := P) w 0 T ty 62 i _ 2 40 ht hi0 hz hsz hby rfl (by decide) v xs.length (jlist xs) hown.own ad m c (jlist l) (by rw [jlist_length, hl]) hcells (jlist_one l) (by unfold maxLen; omega) (by rw [← hl]; exact hbytes) (Nat.zero_le _)
    have hbut : But (foot v) w w' := But.grown h2 (fun g hg => mem_foot.2 hg)
    have hspr : Sprung w v v' := fun g hg => by
      rcases h4 with h4 | h4
      · exact .inl (h4 ▸ hg)
      · rw [h4] at hg; simp at hg; exact .inr (by omega)
    refine ⟨v', w', hr', ⟨by rw [jlist_append, List.length_append, hl]; exact h1, fun z hz => ?_⟩, hbut, hspr⟩
    have hzz : Vs w z.1.1 z.1.2.1 z.1.2.2 z.2.1 ∧ ∀ ad, z.1.1 = some ad → ad.block < w.heap.size ∧ v.ownBlock ≠ some ad.block := by
      rcases List.mem_append.1 hz with hz | hz
      · exact hown.rows z hz
      · exact hr z hz
    refine ⟨hzz.1.but hbut fun ad e hm => (hzz.2 ad e).2 (mem_foot.1 hm), fun ad e => ⟨Nat.lt_of_lt_of_le (hzz.2 ad e).1 hbut.size, fun e' => ?_⟩⟩
    rcases hspr _ e' with h5 | h5
    · exact (hzz.2 ad e).2 h5
    · have := (hzz.2 ad e).1; omega

theorem wpList_append_items {P : Program} {w : World} {ops : Array Oper} {rest : List Oper} {o : Oper} {a : Act} {Q : Exit → Act → World → Prop} (hgd : o.guard = none) (T : TypeId) (s x : Operand)
    (ho : o.op = .call { callee := .builtin .append, args := #[s, x], argTypes := #[T, T] })
    (ht : P.underlying T = some (.slice 62)) (hi : (P.info? 62).map (fun i => (i.zero, i.size, i.bytes)) = some (some (.agg #[.slice none 0 0, .complex .f64 0 0]), 2, 40))
    (v : Value) (xs : List J) (hs : a.eval s = v) (hown : Zrow w v xs) (A : Option Addr) (m c : Nat) (l : List J) (hx : a.eval x = .slice A m c) (hB : Js w A m c l)
    (hr : ∀ z ∈ l, Vs w z.1.1 z.1.2.1 z.1.2.2 z.2.1 ∧ ∀ ad, z.1.1 = some ad → ad.block < w.heap.size ∧ v.ownBlock ≠ some ad.block) (hbytes : (xs.length + l.length) * 40 ≤ 140737488355328)
    (h : ∀ v' w', Zrow w' v' (xs ++ l) → But (foot v) w w' → Sprung w v v' → wpList P ops Q rest (a.put o.dst v') w') : wpList P ops Q (o :: rest) a w := by
  refine wpList_plain hgd fun K hK => ?_
  obtain ⟨v', w', hr, h2, h3, h4⟩ := run_append_items (P := P) (w := w) T o.type ht hi v xs hown A m c l hB hr hbytes
  unfold Oper.wp execOp
  simp only [ho, resolve, invoke, builtin, Sem.run_bind, Sem.run_pure, Result.andThen_ok, List.map_toArray, List.map_cons, List.map_nil, hs, hx, hr]
  exact hK _ _ (h v' w' h2 h3 h4)
/-- One item in a new slice. -/
theorem Js.one (w : World) (z : J) : Js (w.alloc (.cells #[jrow z, jtal z] 62)) (some ⟨w.heap.size, 0, none⟩) 1 1 [z] :=
  ⟨rfl, Nat.le_refl _, by omega, by simp, fun _ => ⟨w.heap.size, 0, rfl, by simp, fun i x hx j u hu => by
    have hi : i = 0 := by have := (List.getElem?_eq_some_iff.1 hx).1; simp at this; omega
    subst hi
    simp at hx
    subst hx
    rw [Lib.cell_of_heap (heap_alloc_new w _)]
    simpa [jcells] using hu⟩⟩
end Go.Proofs.YthpiobkghfdkkaaGreat
