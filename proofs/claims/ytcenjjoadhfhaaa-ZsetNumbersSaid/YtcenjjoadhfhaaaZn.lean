/-
  Sets by what they hold: the contracts once more, over a list of items; literals; the book's One.
-/
import Derived.Test.YtcenjjoadhfhaaaZk
import Derived.Test.YtcenjjoadhfhaaaKnown5
namespace Go.Proofs.Ytcenjjoadhfhaaa
open Go.RowKit
set_option linter.unusedVariables false

/-- The slice holds the items l. -/
def SetIn (l : List I) (w : World) (A : Option Addr) (n cap : Nat) : Prop := ∃ Z, Zs w.heap.size w A n cap Z ∧ itemsOf Z = l
def PartsI (l : List I) : Prop := ∀ x ∈ l, Part x.2.1 ∧ Part x.2.2
theorem SetIn.ev {l : List I} {w w' : World} {A : Option Addr} {n cap : Nat} (h : SetIn l w A n cap) (hE : Ev w w') : SetIn l w' A n cap := by
  obtain ⟨Z, hz, hl⟩ := h
  exact ⟨Z, (hz.ev hE).wide hE.size (Nat.le_refl _), hl⟩
theorem SetIn.nil_ (w : World) : SetIn [] w none 0 0 := ⟨[], Zs.nil_ (Nat.le_refl _), rfl⟩
theorem SetIn.len {l : List I} {w : World} {A : Option Addr} {n cap : Nat} (h : SetIn l w A n cap) : l.length = n := by
  obtain ⟨Z, hz, rfl⟩ := h
  rw [itemsOf_length, hz.len]
theorem PartsI.all {Z : List J} (h : PartsI (itemsOf Z)) : AllParts Z := fun z hz => h z.2 (List.mem_map.2 ⟨z, hz, rfl⟩)
theorem total_in {l : List I} {A : Option Addr} {n cap : Nat} (w : World) (h : SetIn l w A n cap) (hp : PartsI l) :
    Calls Try.prog 6 #[.slice A n cap] w fun e w' => e = .returned (totalV (setB l) (sumN 0 l)) ∧ Ev w w' := by
  obtain ⟨Z, hz, rfl⟩ := h
  exact zset_total w hz hp.all
theorem plain_in {l : List I} {A : Option Addr} {n cap : Nat} (w : World) (h : SetIn l w A n cap) (hp : PartsI l) :
    Calls Try.prog 10 #[.slice A n cap] w fun e w' => e = .returned (.bool (plainB l)) ∧ Ev w w' := by
  obtain ⟨Z, hz, rfl⟩ := h
  exact zset_plain w hz hp.all
theorem right_in {l : List I} {A : Option Addr} {n cap : Nat} (w : World) (h : SetIn l w A n cap) (hp : PartsI l) :
    Calls Try.prog 11 #[.slice A n cap] w fun e w' => e = .returned (.bool (setB l)) ∧ Ev w w' := by
  obtain ⟨Z, hz, rfl⟩ := h
  exact zset_right w hz hp.all.kept
theorem of_in {l : List I} {r : List V} {A A' : Option Addr} {n cap n' cap' : Nat} (w : World) (h : SetIn l w A n cap) (hp : PartsI l) (hr : Vs w A' n' cap' r) :
    Calls Try.prog 12 #[.slice A n cap, .slice A' n' cap'] w fun e w' => e = .returned (cond (setB l) (ofV l r) (.complex .f64 0 0)) ∧ Ev w w' := by
  obtain ⟨Z, hz, rfl⟩ := h
  exact zset_of w hz hp.all hr
theorem same_in {l m : List I} {A B : Option Addr} {n cap n' cap' : Nat} (w : World) (h : SetIn l w A n cap) (h' : SetIn m w B n' cap') (hp : PartsI l) (hp' : PartsI m) :
    Calls Try.prog 8 #[.slice A n cap, .slice B n' cap'] w fun e w' => e = .returned (.bool (decide (l = m))) ∧ Ev w w' := by
  obtain ⟨Z, hz, rfl⟩ := h
  obtain ⟨Y, hy, rfl⟩ := h'
  exact keep_set w hz hy hp.all hp'.all
def wrongI (x : I) : Bool := !(rightR x.1 && (partB x.2.1 && partB x.2.2))
/-- What Make answers for the items l: an error, or a set. -/
def makeI (l : List I) : Nat × List I := if l.any wrongI then (1, []) else match makeF l with
  | none => (27, [])
  | some s => (0, s)
def SetErr (res : Nat × List I) (e : Ending) (w' : World) : Prop := ∃ A' cap', e = .returned (.tuple #[.slice A' res.2.length cap', .int .i64 (res.1 : Int)]) ∧ SetIn res.2 w' A' res.2.length cap'
theorem make_in {l : List I} {A : Option Addr} {n cap : Nat} (w : World) (h : SetIn l w A n cap) (hn : n ≤ 1000000000000) (ht : ∀ x ∈ l, TallyAs x.2.1 x.2.2) :
    Calls Try.prog 4 #[.slice A n cap] w fun e w' => SetErr (makeI l) e w' ∧ Ev w w' := by
  obtain ⟨Z, hz, rfl⟩ := h
  refine (zset_make w hz hn (fun z hz' => ht z.2 (List.mem_map.2 ⟨z, hz', rfl⟩))).mono ?_
  rintro e w' ⟨hm, hE⟩
  refine ⟨?_, hE⟩
  have hw : (itemsOf Z).any wrongI = Z.any wrongJ := by unfold itemsOf; rw [List.any_map]; rfl
  unfold makeI
  rw [hw]
  rcases hm with ⟨h1, rfl⟩ | ⟨h1, h2⟩
  · rw [if_pos h1]
    exact ⟨none, 0, rfl, SetIn.nil_ _⟩
  · rw [if_neg (by rw [h1]; exact Bool.false_ne_true)]
    cases hmf : makeF (itemsOf Z) with
    | none =>
      rw [hmf] at h2
      exact ⟨none, 0, h2, SetIn.nil_ _⟩
    | some s =>
      rw [hmf] at h2
      obtain ⟨A', cap', Z', he, hz', hi⟩ := h2
      exact ⟨A', cap', he, Z', hz', hi⟩
theorem decode_in {A : Option Addr} {n cap : Nat} {L : List UInt8} (w : World) (h : Bs w A n cap L) (hn : n ≤ 140737488355328) (hkp : ∀ x ∈ (rdSet L 0 0).1, KeptAs x.2.1 x.2.2) :
    Calls Try.prog 7 #[.slice A n cap] w fun e w' => SetErr (decF L) e w' ∧ Ev w w' :=
  (zset_decode w h hn hkp).mono fun e w' ⟨⟨A', cap', Z', he, hz, hi⟩, hE⟩ => ⟨⟨A', cap', he, Z', hz, hi⟩, hE⟩

theorem flat_get {α : Type} {k : Nat} {enc : α → List Value} (hk : ∀ x, (enc x).length = k) : ∀ (l : List α) (i : Nat) (x : α), l[i]? = some x → ∀ j u, (enc x)[j]? = some u → (l.flatMap enc)[i * k + j]? = some u
  | [], _, _, h, _, _, _ => by simp at h
  | y :: l, 0, x, h, j, u, hu => by
    simp at h
    subst h
    have hj : j < (enc y).length := (List.getElem?_eq_some_iff.1 hu).1
    rw [List.flatMap_cons, Nat.zero_mul, Nat.zero_add, List.getElem?_append_left hj]
    exact hu
  | y :: l, i + 1, x, h, j, u, hu => by
    have e : (i + 1) * k + j - k = i * k + j := by rw [Nat.add_mul, Nat.one_mul]; omega
    rw [List.flatMap_cons, List.getElem?_append_right (by rw [hk, Nat.add_mul]; omega), hk, e]
    exact flat_get hk l i x (by simpa using h) j u hu
/-- A literal slice of structs. -/
theorem Sl.made {α : Type} {k : Nat} {enc : α → List Value} (hk : ∀ x, (enc x).length = k) (l : List α) (n : Nat) (hn : l.length = n) (hm : n ≤ 1000) (w : World) (cs : Array Value) (T : TypeId) (hc : cs = (l.flatMap enc).toArray) :
    Sl k enc (w.alloc (.cells cs T)) (some ⟨w.heap.size, 0, none⟩) n n l :=
  ⟨hn, Nat.le_refl _, by omega, by simp, fun _ => ⟨w.heap.size, 0, rfl, by simp, fun i x hx j u hu => by
    rw [Lib.cell_of_heap (heap_alloc_new w _), hc, List.getElem?_toArray, Nat.zero_add]
    exact flat_get hk l i x hx j u hu⟩⟩
/-- A row of numbers in memory. -/
def NumRow (l : List Int) (w : World) (A : Option Addr) (n cap : Nat) : Prop := Vs w A n cap (l.map numV) ∧ ∀ ad, A = some ad → ad.block < w.heap.size
theorem NumRow.ev {l : List Int} {w w' : World} {A : Option Addr} {n cap : Nat} (h : NumRow l w A n cap) (hE : Ev w w') : NumRow l w' A n cap := ⟨h.1.ev hE, fun ad e => Nat.lt_of_lt_of_le (h.2 ad e) hE.size⟩
theorem nums_row (l : List Int) (n : Nat) (hn : l.length = n) (hm : n ≤ 1000) (h0 : 0 < n) (w : World) (cs : Array Value) (hc : cs = (l.map fun x => Value.int .i64 x).toArray) :
    Calls Try.prog 5 #[.slice (some ⟨w.heap.size, 0, none⟩) n n] (w.alloc (.cells cs 2)) fun e w' => ∃ A m cap, e = .returned (.slice A m cap) ∧ NumRow l w' A m cap ∧ Ev w w' :=
  (nums_lit l n hn hm w cs hc).mono fun e w' ⟨A, m, cap, he, hv, hE⟩ => ⟨A, m, cap, he, ⟨hv, fun ad ea => by
    have hl := hv.len
    rw [List.length_map, hn] at hl
    obtain ⟨b, off, e2, hlt, _⟩ := hv.rd (by omega)
    rw [ea] at e2
    obtain rfl := Option.some.inj e2
    exact hlt⟩, hE⟩
/-- A literal set. -/
theorem SetIn.made (Z : List J) (n : Nat) (hn : Z.length = n) (hm : n ≤ 1000) (w : World) (cs : Array Value) (hc : cs = (Z.flatMap jcells).toArray) (hr : ∀ z ∈ Z, RowLies w.heap.size w z) (l : List I) (hl : itemsOf Z = l) :
    SetIn l (w.alloc (.cells cs 31)) (some ⟨w.heap.size, 0, none⟩) n n :=
  ⟨Z, ⟨Sl.made (enc := jcells) (fun _ => rfl) Z n hn hm w cs _ hc, fun z hz => ⟨(hr z hz).1.ev (Ev.alloc _ _), fun ad e => Nat.lt_of_lt_of_le ((hr z hz).2 ad e) (Ev.alloc w _).size⟩, by rintro ad ⟨⟩; simp, Nat.le_refl _⟩, hl⟩
theorem NumRow.lies {l : List Int} {w : World} {A : Option Addr} {n cap : Nat} (h : NumRow l w A n cap) (p q : Int) : RowLies w.heap.size w ((A, n, cap), (l.map numV, p, q)) := ⟨h.1, h.2⟩

set_option maxRecDepth 100000 in
theorem keep_one {l : List Int} {A : Option Addr} {n cap : Nat} (k : Int) (hk : k < 0) (h1 : -9223372036854775807 ≤ k) (w : World) (h : NumRow l w A n cap) :
    Calls Try.prog 9 #[.int .i64 k, .slice A n cap] w fun e w' => ∃ B, e = .returned (.slice B 1 1) ∧ SetIn [(l.map numV, 0, -k)] w' B 1 1 ∧ Ev w w' := by
  have hsm := SetIn.made [((A, n, cap), (l.map numV, 0, -k))] 1 rfl (by decide) w #[.slice A n cap, .complex .f64 0 (fl (-k))] (by simp [jcells, jrow, jtal, fl_zero]) (fun z hz => by rw [List.mem_singleton.1 hz]; exact h.lies 0 (-k)) _ rfl
  have HS := Lib.hid hsm
  clear hsm h
  go_enter Try.func9, Try.ntmps9
  go_wp2
  go_ret
  exact ⟨_, rfl, HS.out, Ev.alloc _ _⟩
end Go.Proofs.Ytcenjjoadhfhaaa
