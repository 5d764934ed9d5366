/-
  Texts that belong together: Package expr: Uses: the names of the columns in an expression: sorted, each once. A list of texts sorted, each once: what it is hangs on the members alone. Plain facts. The book of texts: two lists that are alike.
-/
import Derived.Test.YtgiofdmedhhobaaShelf
import Derived.Sort.OwnSorted
import Derived.Test.YtgiofdmedhhobaaZ15N
import Derived.BigQuiet
namespace Go.Proofs.Ytgiofdmedhhobaa
open Go.RowKit
set_option linter.unusedVariables false

theorem mem_compactUpTo (d : Array By) (x : By) : ∀ m, x ∈ Lib.compactUpTo d m ↔ ∃ j, j < m ∧ d[j]! = x
  | 0 => by simp [Lib.compactUpTo]
  | m + 1 => by
    rw [Lib.compactUpTo_succ, List.mem_append, mem_compactUpTo d x m]
    constructor
    · rintro (⟨j, hj, e⟩ | h)
      · exact ⟨j, by omega, e⟩
      · split at h
        · simp at h; exact ⟨m, by omega, h.symm⟩
        · simp at h
    · rintro ⟨j, hj, e⟩
      by_cases hjm : j < m
      · exact .inl ⟨j, hjm, e⟩
      · obtain rfl : j = m := by omega
        cases hk : Lib.keeps d j with
        | true => right; simp [e]
        | false =>
          left
          unfold Lib.keeps at hk
          simp only [decide_eq_false_iff_not, not_or, Decidable.not_not] at hk
          exact ⟨j - 1, by omega, by rw [← hk.2]; exact e⟩
theorem mem_compact (zs : List By) (x : By) : x ∈ Lib.compact zs ↔ x ∈ zs := by
  unfold Lib.compact
  rw [mem_compactUpTo]
  constructor
  · rintro ⟨j, hj, e⟩
    rw [getElem!_pos _ _ (by simpa using hj)] at e
    rw [← e]
    simp
  · intro h
    obtain ⟨j, hj, e⟩ := List.mem_iff_getElem.1 h
    exact ⟨j, hj, by rw [getElem!_pos _ _ (by simpa using hj)]; simpa using e⟩
theorem compact_le (zs : List By) : (Lib.compact zs).length ≤ zs.length := by
  unfold Lib.compact Lib.compactUpTo
  rw [List.length_map]
  exact Nat.le_trans (List.length_filter_le _ _) (by simp)
def sc (x : By) : List Value := [.string ⟨x.toArray⟩]
abbrev Ss := Sl 1 sc
theorem encS1 : Enc 1 sc := ⟨by omega, fun _ => rfl, fun x u hu => by
  simp [sc] at hu
  rw [hu]; rfl⟩
theorem cl_sc (Z : List By) : cl sc Z = Z.map encStr := by
  induction Z with
  | nil => rfl
  | cons x l ih => unfold cl at ih ⊢; rw [List.flatMap_cons, ih]; rfl
theorem Try.infoStr : (Try.prog.info? 9).map (fun i => (i.zero, i.size, i.bytes)) = some (some (.string ⟨#[]⟩), 1, 16) := by kernel_rfl
def sortS (Z : List By) : List By := Z.mergeSort fun x y => decide (x ≤ y)
theorem ow_sort {w : World} {base g n cap : Nat} {Z : List By} (h : Ow 9 1 sc base w (.slice (some ⟨g, 0, none⟩) n cap) Z) (hz : Z.length ≤ 1000000000) :
    Calls Try.prog 40 #[.slice (some ⟨g, 0, none⟩) n cap] w fun e w' => e = .returned (.tuple #[]) ∧ Ow 9 1 sc base w' (.slice (some ⟨g, 0, none⟩) n cap) (sortS Z) ∧ But [g] w w' := by
  have hh := h
  rcases h.2 with ⟨h1, _⟩ | ⟨g', cap', cur, e, hbase, hb, h1, h2, h3, h4⟩
  · cases h1
  · injection e with e1 e2 e3
    injection e1 with e1
    injection e1 with e1 _ _
    subst e1
    subst e2
    subst e3
    refine (Try.slices_Sort_string g 0 cap Z w (holds_of_block hb (by rw [← cl_sc]; simpa using h4)) (Array.getElem?_eq_some_iff.1 hb).1 (by omega)).mono ?_
    rintro e w' ⟨rfl, q, os, rfl⟩
    have hl : (sortS Z).length = Z.length := by unfold sortS; simp
    have := ownsRow_sorted (n := q) (os := os) (ts := sortS Z) (ss := Z) hl hbase hb h1 h2 h3
    refine ⟨rfl, ?_, But.grown (grownBy_sorted _) (by simp)⟩
    unfold Ow
    rw [hl, cl_sc]
    exact this
theorem ow_compact {w : World} {base g n cap : Nat} {Z : List By} (h : Ow 9 1 sc base w (.slice (some ⟨g, 0, none⟩) n cap) Z) (hz : Z.length ≤ 1000000000) :
    Calls Try.prog 41 #[.slice (some ⟨g, 0, none⟩) n cap] w fun e w' => e = .returned (.slice (some ⟨g, 0, none⟩) (Lib.compact Z).length cap) ∧ Ow 9 1 sc base w' (.slice (some ⟨g, 0, none⟩) (Lib.compact Z).length cap) (Lib.compact Z) ∧ But [g] w w' := by
  rcases h.2 with ⟨h1, _⟩ | ⟨g', cap', cur, e, hbase, hb, h1, h2, h3, h4⟩
  · cases h1
  · injection e with e1 e2 e3
    injection e1 with e1
    injection e1 with e1 _ _
    subst e1
    subst e2
    subst e3
    refine (Try.slices_Compact_string g 0 cap Z w (holds_of_block hb (by rw [← cl_sc]; simpa using h4)) (by omega) h1).mono ?_
    rintro e w' ⟨rfl, q, rfl⟩
    have hcl := compact_le Z
    have hl : (Lib.compact Z ++ List.replicate (Z.length - (Lib.compact Z).length) []).length = Z.length := by
      rw [List.length_append, List.length_replicate]; omega
    have h5 := ownsRow_sorted (n := q) (os := #[]) (ts := Lib.compact Z ++ List.replicate (Z.length - (Lib.compact Z).length) []) (ss := Z) hl hbase hb h1 h2 h3
    have h6 := grownBy_sorted (w := w) (g := g) (n := q) (os := #[]) (Lib.compact Z ++ List.replicate (Z.length - (Lib.compact Z).length) []).toArray
    rw [Sort.grow_empty] at h5 h6
    refine ⟨rfl, ?_, But.grown h6 (by simp)⟩
    have h7 : Ow 9 1 sc base (Sort.putRow encStr (Sort.ahead w q) g 0 (Lib.compact Z ++ List.replicate (Z.length - (Lib.compact Z).length) []).toArray) (.slice (some ⟨g, 0, none⟩) Z.length cap) (Lib.compact Z ++ List.replicate (Z.length - (Lib.compact Z).length) []) := by
      unfold Ow
      rw [hl, cl_sc]
      exact h5
    have h8 := h7.to encS1 rfl (Lib.compact Z).length (by rw [hl]; exact hcl)
    rwa [List.take_left] at h8

/-- In the midst of the parts. -/
structure UsSt (w0 : World) (v : Value) (ns : List By) (w : World) : Prop where
  own : Ow 9 1 sc w0.heap.size w v ns
  ev : Ev w0 w
def usedB (p : By → Bool) (t : T) : Bool := !(t.kind == 1) || p t.s
/-- What comes back: names, in order; just those of the expression's columns. -/
def UsOut (t : T) (w : World) (e : Ending) (w' : World) : Prop := ∃ (A : Option Addr) (n cap : Nat) (ns : List By), e = .returned (.slice A n cap) ∧ Ss w' A n cap (Lib.compact (sortS ns)) ∧ (∀ p : By → Bool, ns.all p = t.every (usedB p)) ∧ n ≤ 16000 ∧ (∀ ad, A = some ad → w.heap.size ≤ ad.block) ∧ Ev w w'
theorem used_names (L : List M) (p : By → Bool) : ((L.filter fun x => x.kind == 1).map M.s).all p = L.all fun x => usedB p x.t := by
  induction L with
  | nil => rfl
  | cons x L ih =>
    rw [List.all_cons, ← ih]
    have hu : usedB p x.t = (!(x.kind == 1) || p x.s) := by unfold usedB; rw [M.t_kind, M.t_s]
    rw [hu]
    cases hk : x.kind == 1
    · rw [List.filter_cons, if_neg (by simp [hk])]
      simp
    · rw [List.filter_cons, if_pos hk, List.map_cons, List.all_cons]
      simp

set_option maxRecDepth 100000 in
set_option maxHeartbeats 4000000 in
theorem ex_uses (m : M) (b0 : Nat) (w : World) (h : Lx b0 [] w m) (hsz : m.t.size ≤ 16000) :
    Calls Try.prog 19 #[ev_ m] w (UsOut m.t w) := by
  have HP := Lib.hid (fun w1 (hE : Ev w w1) => ex_parts m b0 w1 (h.ev hE) hsz)
  have hE0 := Ev.alloc w (.cells #[.int .i64 m.kind, .string ⟨m.s.toArray⟩, .int .i64 m.n, m.kv] 39)
  have hB := Bx.new 39 #[.int .i64 m.kind, .string ⟨m.s.toArray⟩, .int .i64 m.n, m.kv] w
  obtain ⟨w0, hw0⟩ : ∃ w0, w.alloc (.cells #[.int .i64 m.kind, .string ⟨m.s.toArray⟩, .int .i64 m.n, m.kv] 39) = w0 := ⟨_, rfl⟩
  rw [hw0] at hE0 hB
  have HE := Lib.hid hE0
  obtain ⟨⟨c0, c1, c2, c3⟩, _⟩ := hB.four
  unfold ev_ M.kv at *
  clear h hsz hE0 hB
  go_enter Try.func19, Try.ntmps19
  go_wp2_with (first | ((with_reducible refine (HP.out _ HE.out).mono ?_); rintro e w1 ⟨A, n, cap, L, rfl, hL, hLx, hall, hn, hE1⟩; simp only []; have HL := Lib.hid hL; have HALL := Lib.hid hall; have HE1 := Lib.hid (HE.out.trans hE1); have hnl := Lib.hid hL.len; have hcp := hL.le; have hcm := hL.max; clear hL hLx hall c0 c1 c2 c3 hw0))
  go_loopw [5, 15] (fun nv iv wr => ∃ (A1 : Option Addr) (n1 cap1 j : Nat) (ns : List By), nv = .slice A1 n1 cap1 ∧ iv = .int .i64 (j : Int) ∧ j ≤ n ∧ Hid (n1 = ns.length ∧ ns.length ≤ j) ∧ Hid (UsSt w1 (.slice A1 n1 cap1) ns wr) ∧ Hid (ns = ((L.take j).filter fun x => x.kind == 1).map M.s)) (fun _ iv _ => n - (intOf iv).toNat)
  case atStart => exact ⟨none, 0, 0, 0, [], rfl, rfl, Nat.zero_le _, Lib.hid ⟨rfl, Nat.le_refl _⟩, Lib.hid ⟨Ow.nil_ _, Ev.refl _⟩, Lib.hid rfl⟩
  case round =>
    obtain ⟨A1, n1, cap1, j, ns, rfl, rfl, hj, HN, HS, HR⟩ := hrel
    by_cases hlt : j < n
    · obtain ⟨x, hx⟩ := HL.out.at hlt
      obtain ⟨b, off, rfl, hb, x0, x1, x2, x3⟩ := Es.cell (HL.out.ev HS.out.ev) hx
      unfold M.kv at x3
      have HTK : Hid (((L.take (j + 1)).filter fun x => x.kind == 1).map M.s = ns ++ (if x.kind == 1 then [x.s] else [])) := Lib.hid (by
        obtain ⟨hk2, e⟩ := List.getElem?_eq_some_iff.1 hx
        rw [List.take_succ_eq_append_getElem hk2, List.filter_append, List.map_append, ← HR.out, e]
        congr 1
        cases hk : x.kind == 1 <;> simp [hk])
      have i1 : (0 : Int) ≤ (j : Int) := by omega
      have i2 : (j : Int) < (n : Int) := by omega
      have HX := Lib.hid hb
      have hB2 := Lib.hid (Bx.new 39 #[.int .i64 x.kind, .string ⟨x.s.toArray⟩, .int .i64 x.n, .slice x.A x.kids.length x.cap] wr)
      clear hx
      by_cases hk : x.kind = 1
      · have hkb : (x.kind == 1) = true := beq_iff_eq.2 hk
        rw [hkb] at HTK
        simp only [if_true] at HTK
        have hns := Lib.hid HN.out.2
        clear hk
        go_wp2_with (first
          | ((show wpList _ _ _ (⟨some 26, _, _, _, _, _⟩ :: _) _ _); refine wpList_append_ow (o := ⟨some 26, _, _, _, _, _⟩) rfl 31 (.tmp 22) (.tmp 25) rfl encS1 Try.underlying31 Try.infoStr rfl rfl (HS.out.own.ev ((Ev.alloc wr _).trans (Ev.alloc _ _))) _ 1 1 [x.s] rfl (by have h5 := Sl.one (et := 9) encS1 (wr.alloc (.cells #[.int .i64 x.kind, .string ⟨x.s.toArray⟩, .int .i64 x.n, .slice x.A x.kids.length x.cap] 39)) x.s _ rfl; rw [show (wr.alloc (.cells #[.int .i64 x.kind, .string ⟨x.s.toArray⟩, .int .i64 x.n, .slice x.A x.kids.length x.cap] 39)).heap.size = wr.heap.size + 1 by simp] at h5; exact h5) (by have := hns.out; simp; omega) (by have := hns.out; simp; omega) (HS.out.ev.trans ((Ev.alloc wr _).trans (Ev.alloc _ _))).size ?_; intro v2 w2 hA2; have E2 : Ev w1 w2 := ((But.of_ev (HS.out.ev.trans ((Ev.alloc wr _).trans (Ev.alloc _ _)))).then hA2.2.1).ev (fun k hk => (HS.out.own.lt (mem_foot.1 hk)).1); obtain ⟨A2, cap2, rfl, _, hAd2⟩ := hA2.1.form encS1; clear hAd2; generalize hnn : (ns ++ [x.s]).length = nn at hA2 ⊢; have HNN2 := Lib.hid hnn.symm; clear hnn))
        go_roundw
        case rel => exact ⟨A2, nn, cap2, j + 1, ns ++ [x.s], rfl, by go_num, by omega, Lib.hid ⟨HNN2.out, by rw [List.length_append]; have := hns.out; simp; omega⟩, Lib.hid ⟨hA2.1, E2⟩, Lib.hid HTK.out.symm⟩
        case measure => simp [intOf]; omega
      · have hkb : (x.kind == 1) = false := beq_eq_false_iff_ne.2 hk
        rw [hkb] at HTK
        simp only [Bool.false_eq_true, if_false, List.append_nil] at HTK
        go_wp2
        go_roundw
        case rel => exact ⟨A1, n1, cap1, j + 1, ns, rfl, by go_num, by omega, Lib.hid ⟨HN.out.1, Nat.le_succ_of_le HN.out.2⟩, Lib.hid ⟨HS.out.own.ev (Ev.alloc _ _), HS.out.ev.trans (Ev.alloc _ _)⟩, Lib.hid HTK.out.symm⟩
        case measure => simp [intOf]; omega
    · have hjn : j = n := by omega
      have i2 : ¬ ((j : Int) < (n : Int)) := by omega
      have HAL : Hid (∀ p : By → Bool, ns.all p = m.t.every (usedB p)) := Lib.hid fun p => by
        rw [HR.out, hjn, List.take_of_length_le (by rw [hnl.out]; exact Nat.le_refl _), used_names, HALL.out]
      have HL16 : Hid (ns.length ≤ 16000) := Lib.hid (by have := HN.out.2; omega)
      have HN1 := Lib.hid HN.out.1
      clear hjn HR HN
      by_cases hz : ns = []
      · subst hz
        obtain rfl : n1 = 0 := HN1.out
        have HSN := Lib.hid (fun w5 => Try.slices_Sort_string_none A1 cap1 w5)
        have HCN := Lib.hid (fun w5 => Try.slices_Compact_string_empty A1 cap1 w5)
        have HF : Hid (Ss wr A1 0 cap1 [] ∧ ∀ ad, A1 = some ad → w.heap.size ≤ ad.block) := Lib.hid (by
          obtain ⟨A2, cap2, hv, hSl, hAd⟩ := HS.out.own.form encS1
          injection hv with h1 h2 h3
          subst h1; subst h3
          exact ⟨hSl, fun ad e => Nat.le_trans HE1.out.size (hAd ad e).2.1⟩)
        go_wp2_with (first
          | ((with_reducible refine (HSN.out _).mono ?_); rintro e w3 ⟨rfl, rfl⟩)
          | ((with_reducible refine (HCN.out _).mono ?_); rintro e w4 ⟨rfl, rfl⟩))
        go_ret
        exact ⟨A1, 0, cap1, [], rfl, by rw [show Lib.compact (sortS []) = [] by unfold sortS; simp [Lib.compact, Lib.compactUpTo]]; exact HF.out.1, HAL.out, Nat.zero_le _, HF.out.2, HE1.out.trans HS.out.ev⟩
      · have hgg : ∃ g, A1 = some ⟨g, 0, none⟩ := by
          rcases HS.out.own.2 with ⟨_, h2⟩ | ⟨g, cap, cur, e, _⟩
          · exact absurd (List.eq_nil_of_length_eq_zero h2) hz
          · injection e with e1
            exact ⟨g, e1⟩
        obtain ⟨g, rfl⟩ := hgg
        have HSO := Lib.hid (ow_sort HS.out.own (by have := HL16.out; omega))
        have hsl : (sortS ns).length = ns.length := by unfold sortS; simp
        have HCO := Lib.hid (fun w5 (h5 : Ow 9 1 sc w1.heap.size w5 (.slice (some ⟨g, 0, none⟩) n1 cap1) (sortS ns)) => ow_compact h5 (by have := HL16.out; omega))
        have HGL := Lib.hid (HS.out.own.lt (g := g) rfl).1
        have HCL : Hid ((Lib.compact (sortS ns)).length ≤ 16000) := Lib.hid (by have := compact_le (sortS ns); have := HL16.out; omega)
        generalize hcc : (Lib.compact (sortS ns)).length = cc at *
        have HCC := Lib.hid hcc
        clear hz hsl hcc
        go_wp2_with (first
          | ((with_reducible refine (HSO.out).mono ?_); rintro e w3 ⟨rfl, hO3, hB3⟩; have HO3 := Lib.hid hO3; have HB3 := Lib.hid hB3; clear hO3 hB3)
          | ((with_reducible refine (HCO.out _ HO3.out).mono ?_); rintro e w4 ⟨rfl, hO4, hB4⟩; have HO4 := Lib.hid hO4; have HB4 := Lib.hid hB4; clear hO4 hB4))
        go_ret
        refine ⟨some ⟨g, 0, none⟩, cc, cap1, ns, rfl, ?_, HAL.out, HCL.out, (fun ad e => by cases e; exact Nat.le_trans HE1.out.size HGL.out), HE1.out.trans (((But.of_ev HS.out.ev).then (HB3.out.then HB4.out)).ev fun k hk => ?_)⟩
        · obtain ⟨A2, cap2, hv, hSl, _⟩ := HO4.out.form encS1
          injection hv with h1 h2 h3
          subst h1; subst h3
          rw [HCC.out] at hSl
          exact hSl
        · simp at hk
          subst hk
          exact HGL.out
end Go.Proofs.Ytgiofdmedhhobaa

namespace Go.Proofs.Ytgiofdmedhhobaa
open Go.RowKit
set_option linter.unusedVariables false

def StrictS (l : List By) : Prop := l.Pairwise fun x y => x ≤ y ∧ x ≠ y
theorem strict_unique : ∀ (l m : List By), StrictS l → StrictS m → (∀ x, x ∈ l ↔ x ∈ m) → l = m
  | [], [], _, _, _ => rfl
  | [], b :: m, _, _, h => by have := (h b).2 (List.mem_cons_self ..); cases this
  | a :: l, [], _, _, h => by have := (h a).1 (List.mem_cons_self ..); cases this
  | a :: l, b :: m, h1, h2, h => by
    unfold StrictS at h1 h2
    rw [List.pairwise_cons] at h1 h2
    have hab : a = b := by
      rcases List.mem_cons.1 ((h a).1 (List.mem_cons_self ..)) with e | e
      · exact e
      · rcases List.mem_cons.1 ((h b).2 (List.mem_cons_self ..)) with e2 | e2
        · exact e2.symm
        · exact List.le_antisymm (h1.1 b e2).1 (h2.1 a e).1
    subst hab
    congr 1
    refine strict_unique l m h1.2 h2.2 fun x => ?_
    constructor
    · intro hx
      rcases List.mem_cons.1 ((h x).1 (List.mem_cons_of_mem _ hx)) with e | e
      · exact absurd e.symm (h1.1 x hx).2
      · exact e
    · intro hx
      rcases List.mem_cons.1 ((h x).2 (List.mem_cons_of_mem _ hx)) with e | e
      · exact absurd e.symm (h2.1 x hx).2
      · exact e
theorem sorted_sortS (l : List By) : (sortS l).Pairwise fun x y => x ≤ y := by
  unfold sortS
  have h := List.pairwise_mergeSort (le := fun (x y : By) => decide (x ≤ y)) (fun a b c h1 h2 => by
    simp only [decide_eq_true_eq] at h1 h2 ⊢
    exact List.le_trans h1 h2) (fun a b => by
    simp only [Bool.or_eq_true, decide_eq_true_eq]
    exact List.le_total a b) l
  exact h.imp fun {a b} h => of_decide_eq_true h
theorem strict_compact (zs : List By) (h : zs.Pairwise fun x y => x ≤ y) : StrictS (Lib.compact zs) := by
  unfold StrictS Lib.compact Lib.compactUpTo
  rw [List.pairwise_map]
  have hp : ((List.range zs.length).filter (Lib.keeps zs.toArray)).Pairwise (· < ·) := List.Pairwise.filter _ List.pairwise_lt_range
  refine hp.imp_of_mem ?_
  intro i j hi hj hij
  rw [List.mem_filter, List.mem_range] at hi hj
  have hat : ∀ (p q : Nat), p ≤ q → q < zs.length → zs.toArray[p]! ≤ zs.toArray[q]! := fun p q hpq hq => by
    rw [getElem!_pos zs.toArray p (by simp; omega), getElem!_pos zs.toArray q (by simpa using hq)]
    rcases Nat.lt_or_ge p q with h1 | h1
    · have := (List.pairwise_iff_getElem.1 h) p q (by omega) hq h1
      simpa using this
    · obtain rfl : p = q := by omega
      exact List.le_refl _
  have hk := hj.2
  unfold Lib.keeps at hk
  have hk2 : zs.toArray[j]! ≠ zs.toArray[j - 1]! := by
    rcases of_decide_eq_true hk with h1 | h1
    · omega
    · exact h1
  refine ⟨hat i j (by omega) hj.1, fun e => hk2 ?_⟩
  refine List.le_antisymm ?_ (hat (j - 1) j (by omega) hj.1)
  rw [← e]
  exact hat i (j - 1) (by omega) (by omega)
theorem mem_sortS (l : List By) (x : By) : x ∈ sortS l ↔ x ∈ l := by
  unfold sortS
  exact List.mem_mergeSort
theorem compact_sort_eq {l m : List By} (h : ∀ x, x ∈ l ↔ x ∈ m) (hm : StrictS m) : Lib.compact (sortS l) = m :=
  strict_unique _ _ (strict_compact _ (sorted_sortS l)) hm fun x => by rw [mem_compact, mem_sortS, h]
theorem compact_sort_same {l m : List By} (h : ∀ x, x ∈ l ↔ x ∈ m) : Lib.compact (sortS l) = Lib.compact (sortS m) :=
  compact_sort_eq (fun x => by rw [mem_compact, mem_sortS, h]) (strict_compact _ (sorted_sortS m))
theorem mem_of_all {l : List By} {b : (By → Bool) → Bool} (h : ∀ p, l.all p = b p) (x : By) : x ∈ l ↔ b (fun y => !(y == x)) = false := by
  rw [← h]
  constructor
  · intro hx
    cases h0 : l.all fun y => !(y == x)
    · rfl
    · have := List.all_eq_true.1 h0 x hx
      simp at this
  · intro h0
    by_cases hx : x ∈ l
    · exact hx
    · have : l.all (fun y => !(y == x)) = true := List.all_eq_true.2 fun y hy => by
        simp only [Bool.not_eq_true', beq_eq_false_iff_ne]
        rintro rfl
        exact hx hy
      rw [this] at h0
      cases h0
end Go.Proofs.Ytgiofdmedhhobaa

namespace Go.Proofs.Ytgiofdmedhhobaa
open Go.RowKit
set_option linter.unusedVariables false

theorem Ss.cell2 {w : World} {A : Option Addr} {n cap : Nat} {l : List By} (h : Ss w A n cap l) {i : Nat} {x : By} (hx : l[i]? = some x) : ∃ b off, A = some ⟨b, off, none⟩ ∧ b < w.heap.size ∧ w.cell? ⟨b, off + i, none⟩ = some (.string ⟨x.toArray⟩) := by
  have hi := (List.getElem?_eq_some_iff.1 hx).1
  have hl := h.len
  obtain ⟨b, off, e, hlt, hc⟩ := h.rd (by omega)
  have := hc i x hx 0 _ rfl
  rw [Nat.mul_one, Nat.add_zero] at this
  exact ⟨b, off, e, hlt, this⟩

set_option maxRecDepth 100000 in
set_option maxHeartbeats 1600000 in
theorem keep_texts {A B : Option Addr} {n cap m cap' : Nat} {l : List By} (w : World) (h : Ss w A n cap l) (h' : Ss w B m cap' l) :
    Calls Try.prog 18 #[.slice A n cap, .slice B m cap'] w fun e w' => e = .returned (.bool true) ∧ Ev w w' := by
  have hn := h.le
  have hm := h.max
  have hn' := h'.le
  have hm' := h'.max
  obtain rfl : n = m := h.len.symm.trans h'.len
  go_enter Try.func18, Try.ntmps18
  go_wp2
  go_loopw [5] (fun i wr => ∃ k : Nat, k ≤ n ∧ i = .int .i64 k ∧ Ev w wr) (fun i _ => n - (intOf i).toNat)
  case atStart => exact ⟨0, Nat.zero_le _, rfl, Ev.refl _⟩
  case round =>
    obtain ⟨k, hk, rfl, hE⟩ := hrel
    by_cases hlt : k < n
    · obtain ⟨x, hx⟩ := h.at hlt
      obtain ⟨b1, off, rfl, hb, c0⟩ := Ss.cell2 (h.ev hE) hx
      obtain ⟨b2, off', rfl, hb', d0⟩ := Ss.cell2 (h'.ev hE) hx
      have i1 : (0 : Int) ≤ (k : Int) := by omega
      have i2 : (k : Int) < (n : Int) := by omega
      have HE := Lib.hid hE
      clear hx h h' hE
      go_wp2_with fail
      go_quiet (fail)
      go_wp2
      go_roundw
      case rel => exact ⟨k + 1, by omega, by go_num, HE.out.trans (Ev.drewN _ _)⟩
      case measure => simp [intOf]; omega
    · obtain rfl : k = n := by omega
      go_wp2
      go_ret
      exact ⟨rfl, hE⟩
end Go.Proofs.Ytgiofdmedhhobaa
