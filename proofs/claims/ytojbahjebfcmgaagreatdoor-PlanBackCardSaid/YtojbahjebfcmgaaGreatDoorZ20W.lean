/-
  Texts that belong together: Package expr: Uses: the names of the columns in an expression: sorted, each once. The book of texts: two lists that are alike. The document (chapter 9): two lists of texts that are alike. A list of texts sorted, each once: what it is hangs on the members alone. Plain facts.
-/
import Derived.Test.YtojbahjebfcmgaaGreatDoorShelf
import Derived.Sort.OwnSorted
import Derived.Test.YtojbahjebfcmgaaGreatDoorZ17W
import Derived.BigQuiet
namespace Go.Proofs.YtojbahjebfcmgaaGreatDoor
open Go.RowKit
set_option linter.unusedVariables false

theorem mem_compactUpTo (d : Array By) (x : By) : ∀ m, x ∈ Lib.compactUpTo d m ↔ ∃ j, j < m ∧ d[j]! = x
  | 0 => by simp [Lib.compactUpTo]
  | m + 1 => by
    rw [Lib.compactUpTo_succ, List.mem_append, mem_compactUpTo d x m]
    constructor
    · rintro (⟨j, hj, e⟩ | h)
      · exact ⟨j, by omega, e⟩
      · split at h
        · simp at h; exact ⟨m, by omega, h.symm⟩
        · simp at h
    · rintro ⟨j, hj, e⟩
      by_cases hjm : j < m
      · exact .inl ⟨j, hjm, e⟩
      · obtain rfl : j = m := by omega
        cases hk : Lib.keeps d j with
        | true => right; simp [e]
        | false =>
          left
          unfold Lib.keeps at hk
          simp only [decide_eq_false_iff_not, not_or, Decidable.not_not] at hk
          exact ⟨j - 1, by omega, by rw [← hk.2]; exact e⟩
theorem mem_compact (zs : List By) (x : By) : x ∈ Lib.compact zs ↔ x ∈ zs := by
  unfold Lib.compact
  rw [mem_compactUpTo]
  constructor
  · rintro ⟨j, hj, e⟩
    rw [getElem!_pos _ _ (by simpa using hj)] at e
    rw [← e]
    simp
  · intro h
    obtain ⟨j, hj, e⟩ := List.mem_iff_getElem.1 h
    exact ⟨j, hj, by rw [getElem!_pos _ _ (by simpa using hj)]; simpa using e⟩
theorem compact_le (zs : List By) : (Lib.compact zs).length ≤ zs.length := by
  unfold Lib.compact Lib.compactUpTo
  rw [List.length_map]
  exact Nat.le_trans (List.length_filter_le _ _) (by simp)
def sc (x : By) : List Value := [.string ⟨x.toArray⟩]
abbrev Ss := Sl 1 sc
theorem encS1 : Enc 1 sc := ⟨by omega, fun _ => rfl, fun x u hu => by
  simp [sc] at hu
  rw [hu]; rfl⟩
theorem cl_sc (Z : List By) : cl sc Z = Z.map encStr := by
  induction Z with
  | nil => rfl
  | cons x l ih => unfold cl at ih ⊢; rw [List.flatMap_cons, ih]; rfl
theorem Tryz.infoStr : (Tryz.prog.info? 9).map (fun i => (i.zero, i.size, i.bytes)) = some (some (.string ⟨#[]⟩), 1, 16) := by kernel_rfl
def sortS (Z : List By) : List By := Z.mergeSort fun x y => decide (x ≤ y)
theorem ow_sort {w : World} {base g n cap : Nat} {Z : List By} (h : Ow 9 1 sc base w (.slice (some ⟨g, 0, none⟩) n cap) Z) (hz : Z.length ≤ 1000000000) :
    Calls Tryz.prog 33 #[.slice (some ⟨g, 0, none⟩) n cap] w fun e w' => e = .returned (.tuple #[]) ∧ Ow 9 1 sc base w' (.slice (some ⟨g, 0, none⟩) n cap) (sortS Z) ∧ But [g] w w' := by
  have hh := h
  rcases h.2 with ⟨h1, _⟩ | ⟨g', cap', cur, e, hbase, hb, h1, h2, h3, h4⟩
  · cases h1
  · injection e with e1 e2 e3
    injection e1 with e1
    injection e1 with e1 _ _
    subst e1
    subst e2
    subst e3
    refine (Tryz.slices_Sort_string g 0 cap Z w (holds_of_block hb (by rw [← cl_sc]; simpa using h4)) (Array.getElem?_eq_some_iff.1 hb).1 (by omega)).mono ?_
    rintro e w' ⟨rfl, q, os, rfl⟩
    have hl : (sortS Z).length = Z.length := by unfold sortS; simp
    have := ownsRow_sorted (n := q) (os := os) (ts := sortS Z) (ss := Z) hl hbase hb h1 h2 h3
    refine ⟨rfl, ?_, But.grown (grownBy_sorted _) (by simp)⟩
    unfold Ow
    rw [hl, cl_sc]
    exact this
theorem ow_compact {w : World} {base g n cap : Nat} {Z : List By} (h : Ow 9 1 sc base w (.slice (some ⟨g, 0, none⟩) n cap) Z) (hz : Z.length ≤ 1000000000) :
    Calls Tryz.prog 34 #[.slice (some ⟨g, 0, none⟩) n cap] w fun e w' => e = .returned (.slice (some ⟨g, 0, none⟩) (Lib.compact Z).length cap) ∧ Ow 9 1 sc base w' (.slice (some ⟨g, 0, none⟩) (Lib.compact Z).length cap) (Lib.compact Z) ∧ But [g] w w' := by
  rcases h.2 with ⟨h1, _⟩ | ⟨g', cap', cur, e, hbase, hb, h1, h2, h3, h4⟩
  · cases h1
  · injection e with e1 e2 e3
    injection e1 with e1
    injection e1 with e1 _ _
    subst e1
    subst e2
    subst e3
    refine (Tryz.slices_Compact_string g 0 cap Z w (holds_of_block hb (by rw [← cl_sc]; simpa using h4)) (by omega) h1).mono ?_
    rintro e w' ⟨rfl, q, rfl⟩
    have hcl := compact_le Z
    have hl : (Lib.compact Z ++ List.replicate (Z.length - (Lib.compact Z).length) []).length = Z.length := by
      rw [List.length_append, List.length_replicate]; omega
    have h5 := ownsRow_sorted (n := q) (os := #[]) (ts := Lib.compact Z ++ List.replicate (Z.length - (Lib.compact Z).length) []) (ss := Z) hl hbase hb h1 h2 h3
    have h6 := grownBy_sorted (w := w) (g := g) (n := q) (os := #[]) (Lib.compact Z ++ List.replicate (Z.length - (Lib.compact Z).length) []).toArray
    rw [Sort.grow_empty] at h5 h6
    refine ⟨rfl, ?_, But.grown h6 (by simp)⟩
    have h7 : Ow 9 1 sc base (Sort.putRow encStr (Sort.ahead w q) g 0 (Lib.compact Z ++ List.replicate (Z.length - (Lib.compact Z).length) []).toArray) (.slice (some ⟨g, 0, none⟩) Z.length cap) (Lib.compact Z ++ List.replicate (Z.length - (Lib.compact Z).length) []) := by
      unfold Ow
      rw [hl, cl_sc]
      exact h5
    have h8 := h7.to encS1 rfl (Lib.compact Z).length (by rw [hl]; exact hcl)
    rwa [List.take_left] at h8

/-- In the midst of the parts. -/
structure UsSt (w0 : World) (v : Value) (ns : List By) (w : World) : Prop where
  own : Ow 9 1 sc w0.heap.size w v ns
  ev : Ev w0 w
end Go.Proofs.YtojbahjebfcmgaaGreatDoor

namespace Go.Proofs.YtojbahjebfcmgaaGreatDoor
open Go.RowKit
set_option linter.unusedVariables false

theorem Ss.cell2 {w : World} {A : Option Addr} {n cap : Nat} {l : List By} (h : Ss w A n cap l) {i : Nat} {x : By} (hx : l[i]? = some x) : ∃ b off, A = some ⟨b, off, none⟩ ∧ b < w.heap.size ∧ w.cell? ⟨b, off + i, none⟩ = some (.string ⟨x.toArray⟩) := by
  have hi := (List.getElem?_eq_some_iff.1 hx).1
  have hl := h.len
  obtain ⟨b, off, e, hlt, hc⟩ := h.rd (by omega)
  have := hc i x hx 0 _ rfl
  rw [Nat.mul_one, Nat.add_zero] at this
  exact ⟨b, off, e, hlt, this⟩

set_option maxRecDepth 100000 in
set_option maxHeartbeats 1600000 in
theorem keep_texts {A B : Option Addr} {n cap m cap' : Nat} {l : List By} (w : World) (h : Ss w A n cap l) (h' : Ss w B m cap' l) :
    Calls Tryz.prog 13 #[.slice A n cap, .slice B m cap'] w fun e w' => e = .returned (.bool true) ∧ Ev w w' := by
  have hn := h.le
  have hm := h.max
  have hn' := h'.le
  have hm' := h'.max
  obtain rfl : n = m := h.len.symm.trans h'.len
  go_enter Tryz.func13, Tryz.ntmps13
  go_wp2
  go_loopw [5] (fun i wr => ∃ k : Nat, k ≤ n ∧ i = .int .i64 k ∧ Ev w wr) (fun i _ => n - (intOf i).toNat)
  case atStart => exact ⟨0, Nat.zero_le _, rfl, Ev.refl _⟩
  case round =>
    obtain ⟨k, hk, rfl, hE⟩ := hrel
    by_cases hlt : k < n
    · obtain ⟨x, hx⟩ := h.at hlt
      obtain ⟨b1, off, rfl, hb, c0⟩ := Ss.cell2 (h.ev hE) hx
      obtain ⟨b2, off', rfl, hb', d0⟩ := Ss.cell2 (h'.ev hE) hx
      have i1 : (0 : Int) ≤ (k : Int) := by omega
      have i2 : (k : Int) < (n : Int) := by omega
      have HE := Lib.hid hE
      clear hx h h' hE
      go_wp2_with fail
      go_quiet (fail)
      go_wp2
      go_roundw
      case rel => exact ⟨k + 1, by omega, by go_num, HE.out.trans (Ev.drewN _ _)⟩
      case measure => simp [intOf]; omega
    · obtain rfl : k = n := by omega
      go_wp2
      go_ret
      exact ⟨rfl, hE⟩
end Go.Proofs.YtojbahjebfcmgaaGreatDoor

namespace Go.Proofs.YtojbahjebfcmgaaGreatDoor
open Go.RowKit
set_option linter.unusedVariables false

set_option maxRecDepth 100000 in
set_option maxHeartbeats 1600000 in
theorem ref9_texts {A B : Option Addr} {n cap m cap' : Nat} {l : List By} (w : World) (h : Ss w A n cap l) (h' : Ss w B m cap' l) :
    Calls Tryz.prog 62 #[.slice A n cap, .slice B m cap'] w fun e w' => e = .returned (.bool true) ∧ Ev w w' := by
  have hn := h.le
  have hm := h.max
  have hn' := h'.le
  have hm' := h'.max
  obtain rfl : n = m := h.len.symm.trans h'.len
  go_enter Tryz.func62, Tryz.ntmps62
  go_wp2
  go_loopw [5] (fun i wr => ∃ k : Nat, k ≤ n ∧ i = .int .i64 k ∧ Ev w wr) (fun i _ => n - (intOf i).toNat)
  case atStart => exact ⟨0, Nat.zero_le _, rfl, Ev.refl _⟩
  case round =>
    obtain ⟨k, hk, rfl, hE⟩ := hrel
    by_cases hlt : k < n
    · obtain ⟨x, hx⟩ := h.at hlt
      obtain ⟨b1, off, rfl, hb, c0⟩ := Ss.cell2 (h.ev hE) hx
      obtain ⟨b2, off', rfl, hb', d0⟩ := Ss.cell2 (h'.ev hE) hx
      have i1 : (0 : Int) ≤ (k : Int) := by omega
      have i2 : (k : Int) < (n : Int) := by omega
      have HE := Lib.hid hE
      clear hx h h' hE
      go_wp2_with fail
      go_quiet (fail)
      go_wp2
      go_roundw
      case rel => exact ⟨k + 1, by omega, by go_num, HE.out.trans (Ev.drewN _ _)⟩
      case measure => simp [intOf]; omega
    · obtain rfl : k = n := by omega
      go_wp2
      go_ret
      exact ⟨rfl, hE⟩
end Go.Proofs.YtojbahjebfcmgaaGreatDoor

namespace Go.Proofs.YtojbahjebfcmgaaGreatDoor
open Go.RowKit
set_option linter.unusedVariables false

def StrictS (l : List By) : Prop := l.Pairwise fun x y => x ≤ y ∧ x ≠ y
theorem strict_unique : ∀ (l m : List By), StrictS l → StrictS m → (∀ x, x ∈ l ↔ x ∈ m) → l = m
  | [], [], _, _, _ => rfl
  | [], b :: m, _, _, h => by have := (h b).2 (List.mem_cons_self ..); cases this
  | a :: l, [], _, _, h => by have := (h a).1 (List.mem_cons_self ..); cases this
  | a :: l, b :: m, h1, h2, h => by
    unfold StrictS at h1 h2
    rw [List.pairwise_cons] at h1 h2
    have hab : a = b := by
      rcases List.mem_cons.1 ((h a).1 (List.mem_cons_self ..)) with e | e
      · exact e
      · rcases List.mem_cons.1 ((h b).2 (List.mem_cons_self ..)) with e2 | e2
        · exact e2.symm
        · exact List.le_antisymm (h1.1 b e2).1 (h2.1 a e).1
    subst hab
    congr 1
    refine strict_unique l m h1.2 h2.2 fun x => ?_
    constructor
    · intro hx
      rcases List.mem_cons.1 ((h x).1 (List.mem_cons_of_mem _ hx)) with e | e
      · exact absurd e.symm (h1.1 x hx).2
      · exact e
    · intro hx
      rcases List.mem_cons.1 ((h x).2 (List.mem_cons_of_mem _ hx)) with e | e
      · exact absurd e.symm (h2.1 x hx).2
      · exact e
theorem sorted_sortS (l : List By) : (sortS l).Pairwise fun x y => x ≤ y := by
  unfold sortS
  have h := List.pairwise_mergeSort (le := fun (x y : By) => decide (x ≤ y)) (fun a b c h1 h2 => by
    simp only [decide_eq_true_eq] at h1 h2 ⊢
    exact List.le_trans h1 h2) (fun a b => by
    simp only [Bool.or_eq_true, decide_eq_true_eq]
    exact List.le_total a b) l
  exact h.imp fun {a b} h => of_decide_eq_true h
theorem strict_compact (zs : List By) (h : zs.Pairwise fun x y => x ≤ y) : StrictS (Lib.compact zs) := by
  unfold StrictS Lib.compact Lib.compactUpTo
  rw [List.pairwise_map]
  have hp : ((List.range zs.length).filter (Lib.keeps zs.toArray)).Pairwise (· < ·) := List.Pairwise.filter _ List.pairwise_lt_range
  refine hp.imp_of_mem ?_
  intro i j hi hj hij
  rw [List.mem_filter, List.mem_range] at hi hj
  have hat : ∀ (p q : Nat), p ≤ q → q < zs.length → zs.toArray[p]! ≤ zs.toArray[q]! := fun p q hpq hq => by
    rw [getElem!_pos zs.toArray p (by simp; omega), getElem!_pos zs.toArray q (by simpa using hq)]
    rcases Nat.lt_or_ge p q with h1 | h1
    · have := (List.pairwise_iff_getElem.1 h) p q (by omega) hq h1
      simpa using this
    · obtain rfl : p = q := by omega
      exact List.le_refl _
  have hk := hj.2
  unfold Lib.keeps at hk
  have hk2 : zs.toArray[j]! ≠ zs.toArray[j - 1]! := by
    rcases of_decide_eq_true hk with h1 | h1
    · omega
    · exact h1
  refine ⟨hat i j (by omega) hj.1, fun e => hk2 ?_⟩
  refine List.le_antisymm ?_ (hat (j - 1) j (by omega) hj.1)
  rw [← e]
  exact hat i (j - 1) (by omega) (by omega)
theorem mem_sortS (l : List By) (x : By) : x ∈ sortS l ↔ x ∈ l := by
  unfold sortS
  exact List.mem_mergeSort
theorem compact_sort_eq {l m : List By} (h : ∀ x, x ∈ l ↔ x ∈ m) (hm : StrictS m) : Lib.compact (sortS l) = m :=
  strict_unique _ _ (strict_compact _ (sorted_sortS l)) hm fun x => by rw [mem_compact, mem_sortS, h]
theorem compact_sort_same {l m : List By} (h : ∀ x, x ∈ l ↔ x ∈ m) : Lib.compact (sortS l) = Lib.compact (sortS m) :=
  compact_sort_eq (fun x => by rw [mem_compact, mem_sortS, h]) (strict_compact _ (sorted_sortS m))
end Go.Proofs.YtojbahjebfcmgaaGreatDoor
