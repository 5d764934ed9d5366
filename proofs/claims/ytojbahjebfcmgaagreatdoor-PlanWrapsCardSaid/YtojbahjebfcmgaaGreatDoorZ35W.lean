/-
  Texts that belong together: Package plan: the tree of any plan, and its text. Chapter 9 in plain words: what Read makes is small enough to be written. Chapter 9 in plain words: what is read, printed and read again; a plan that is wrapped; sums over a plan's parts. Package plan: Read. Package plan: Read of a tree. Package plan: Read, of any text. slices.Equal of lists that hold the same. slices.Equal of lists of aggregates that hold the same. Package plan: sameExpr of expressions that are the same. Package plan: sameExpr of expressions that are the same. Package plan: same, of plans that are the same. Package plan: same, of plans that are the same.
-/
import Derived.Test.YtojbahjebfcmgaaGreatDoorZ31W
import Derived.Test.YtojbahjebfcmgaaGreatDoorZ32W
import Derived.Test.YtojbahjebfcmgaaGreatDoorZ33W
import Derived.Test.YtojbahjebfcmgaaGreatDoorZ26W
import Derived.Test.YtojbahjebfcmgaaGreatDoorZ27W
import Derived.Test.YtojbahjebfcmgaaGreatDoorZ25W
import Derived.Test.YtojbahjebfcmgaaGreatDoorZ34W
namespace Go.Proofs.YtojbahjebfcmgaaGreatDoor
open Go.RowKit
set_option linter.unusedVariables false

def fitE (e : T) : Prop := xRight e = true ∧ e.size ≤ 16000 ∧ e.every (fun t => decide (t.s.length ≤ 1000000)) = true
def fitHead (k : Int) (es : List T) (cs lf rt : List By) (ag : List Ag) (nk : Nat) : Prop :=
  (k = 1 ∨ k = 2 ∨ k = 3 ∨ k = 4 ∨ k = 5 ∨ k = 6 ∨ k = 7) ∧ (∀ e ∈ es, fitE e) ∧ (k = 3 → es.length = cs.length) ∧ es.length ≤ 10000 ∧ lf.length ≤ 10000 ∧ rt.length ≤ 10000 ∧ ag.length ≤ 10000 ∧ nk ≤ 10000
mutual
/-- A plan whose tree is written. -/
def Pl.fit : Pl → Prop
  | .mk k _ es cs lf rt ag l => fitHead k es cs lf rt ag l.length ∧ Pl.fits l
def Pl.fits : List Pl → Prop
  | [] => True
  | p :: l => p.fit ∧ Pl.fits l
end
theorem Pl.fits_all : ∀ l : List Pl, Pl.fits l ↔ ∀ p ∈ l, p.fit
  | [] => by simp [Pl.fits]
  | p :: l => by simp [Pl.fits, Pl.fits_all l]
theorem fit_m {m : PM} (h : m.p.fit) : fitHead m.kind (m.ex.l.map M.t) m.co.l m.lf.l m.rt.l m.ag.l m.kids.length ∧ ∀ x ∈ m.kids, x.p.fit := by
  rw [PM.p_eq, Pl.fit, Pl.fits_all, List.length_map] at h
  exact ⟨h.1, fun x hx => h.2 x.p (List.mem_map_of_mem hx)⟩
theorem pl_tree (N : Nat) : ∀ (m : PM) (b0 : Nat) (w : World), m.dep ≤ N → Qx b0 [] w m → m.p.fit →
    Calls Tryz.prog 60 #[pv m] w (TrOut (pTree m.p) w) := by
  induction N with
  | zero =>
    intro m b0 w hd
    rw [PM.dep_eq] at hd
    omega
  | succ N ih =>
    intro m b0 w hd h hf
    obtain ⟨⟨hk, hes, h3, hel, hll, hrl, hal, hkn⟩, hkf⟩ := fit_m hf
    rw [List.length_map] at hel h3
    have hrx : ∀ x ∈ m.ex.l, xRight x.t = true ∧ x.t.size ≤ 16000 ∧ x.t.every (fun t => decide (t.s.length ≤ 1000000)) = true := fun x hx => hes x.t (List.mem_map_of_mem hx)
    have ih2 : ∀ x ∈ m.kids, ∀ w1, Ev w w1 → Calls Tryz.prog 60 #[pv x] w1 (TrOut (pTree x.p) w1) := fun x hx w1 hE => ih x b0 w1 (by have := PM.kid_dep hx; omega) ((h.kid x hx).ev hE) (hkf x hx)
    rcases hk with hk | hk | hk | hk | hk | hk | hk
    · exact pl_treeTable m b0 w h hk hkn ih2
    · exact pl_treeFilter m b0 w h hk hrx hel hkn ih2
    · exact pl_treeProject m b0 w h hk hrx hel (h3 hk) hkn ih2
    · exact pl_treeJoin m b0 w h hk hll hrl hkn ih2
    · exact pl_treeUnion m b0 w h hk hkn ih2
    · exact pl_treeDistinct m b0 w h hk hkn ih2
    · exact pl_treeGroup m b0 w h hk hll hal hkn ih2

set_option maxRecDepth 100000 in
set_option maxHeartbeats 4000000 in
theorem pl_show (m : PM) (b0 : Nat) (w : World) (hT : Tab w) (h : Qx b0 [] w m) (hf : m.p.fit) (hsz : (pTree m.p).size ≤ 100000) (hlen : (printS (pTree m.p)).length ≤ 1000000) (hne : printS (pTree m.p) ≠ []) (hfit : fitsS (pTree m.p) = true) :
    Calls Tryz.prog 28 #[pv m] w fun r w' => r = .returned (.string ⟨(printS (pTree m.p)).toArray⟩) ∧ Ev w w' := by
  have HT := Lib.hid (fun w1 (hE : Ev w w1) => pl_tree m.dep m b0 w1 (Nat.le_refl _) (h.ev hE) hf)
  have HP := Lib.hid (fun (x : M) (hx : x.t = pTree m.p) b1 w1 (hE : Ev w w1) (hl : Lies b1 [] w1 x) => sx_printAny (hT.ev hE) hl (by rw [hx]; exact hsz) (by rw [hx]; exact hlen) (.inl (by rw [hx]; exact hne)) (by rw [hx]; exact hfit))
  unfold pv Sle.v PM.kv TrOut at *
  obtain ⟨R, hR⟩ : ∃ R, R = pTree m.p := ⟨_, rfl⟩
  rw [← hR] at HT HP ⊢
  have hB := Bx.new 27 #[.int .i64 m.kind, .string ⟨m.name.toArray⟩, .slice m.ex.A m.ex.l.length m.ex.cap, .slice m.co.A m.co.l.length m.co.cap, .slice m.lf.A m.lf.l.length m.lf.cap, .slice m.rt.A m.rt.l.length m.rt.cap, .slice m.ag.A m.ag.l.length m.ag.cap, .slice m.A m.kids.length m.cap] w
  obtain ⟨⟨p0, p1, p2, p3, p4, p5, p6, p7⟩, _⟩ := hB.eight
  clear hT h hf hsz hlen hne hfit hR hB
  go_enter Tryz.func28, Tryz.ntmps28
  go_wp2_with (first
    | ((with_reducible refine (HT.out _ (Ev.alloc w _)).mono ?_); rintro r w1 ⟨x, rfl, hxt, hxl, hE1⟩; have HXT := Lib.hid hxt; have HXL := Lib.hid hxl; have E1 := Lib.hid ((Ev.alloc w _).trans hE1); have HPX := Lib.hid (HP.out x hxt _ w1 E1.out hxl); rw [HXT.out] at HPX; clear hxt hxl p0 p1 p2 p3 p4 p5 p6 p7)
    | ((with_reducible refine (HPX.out).mono ?_); rintro r w2 ⟨rfl, hE2⟩))
  go_ret
  exact ⟨rfl, E1.out.trans hE2⟩
end Go.Proofs.YtojbahjebfcmgaaGreatDoor

namespace Go.Proofs.YtojbahjebfcmgaaGreatDoor
open Go.RowKit
set_option linter.unusedVariables false

theorem fine_atom_len {s : By} {n : Int} {l : List T} {p : Nat} (h : (T.mk 2 s n l p).fine = true) : s.length ≤ 1000 := by
  rw [T.fine] at h
  unfold fineLeaf at h
  simp only [Bool.or_eq_true, Bool.and_eq_true, beq_iff_eq, decide_eq_true_eq] at h
  rcases h with h | ((h | h) | h)
  · exact absurd h.1.1.1 (by decide)
  · exact h.1.2.2
  · exact absurd h.1.1.1 (by decide)
  · exact absurd h.1.1.1 (by decide)
mutual
theorem fine_len : ∀ t : T, t.fine = true → 1 ≤ (printS t).length ∧ (printS t).length + 1 ≤ 1002 * t.size
  | .mk k s n l p, h => by
    have hl := fine_lens l
    have hff := (fine_fair _ h).1
    rw [T.every, Bool.and_eq_true] at hff
    have hn := (fairB_of hff.1).1
    have hz := T.size_eq (.mk k s n l p)
    simp only [T.kids] at hz
    rcases fine_cases h with ⟨h1, h2, h3, h4⟩ | ⟨h1, h2, h3, h4⟩ | ⟨h1, h2, h3⟩ | ⟨h1, h2, h3, h4⟩
    · subst h1; subst h2; subst h3
      have h5 := hl h4
      have h6 := printL_len l true
      refine ⟨by simp [printS], ?_⟩
      rw [printS, if_pos rfl, List.length_cons, List.length_append, List.length_cons, List.length_nil]
      omega
    · subst h1; subst h2; subst h3
      have h5 := fine_atom_len h
      have h6 := List.length_pos_iff.2 h4
      rw [printS, if_neg (by decide), if_pos rfl]
      simp at hz
      omega
    · subst h1; subst h2; subst h3
      have h5 := Lib.itoa_length_le n hn.1 hn.2
      have h6 : 1 ≤ (Lib.itoa n).length := by
        unfold Lib.itoa
        split
        · simp
        · rw [Lib.decDigits_length]
          unfold Lib.nDigits
          split <;> omega
      rw [printS, if_neg (by decide), if_neg (by decide), if_pos rfl]
      simp at hz
      omega
    · subst h1; subst h2; subst h3
      have h5 := show_len h4
      rw [printS, if_neg (by decide), if_neg (by decide), if_neg (by decide), if_pos rfl]
      simp at hz
      omega
theorem fine_lens : ∀ l : List T, (∀ t ∈ l, t.fine = true) → (l.map fun t => (printS t).length + 1).sum ≤ 1002 * (l.map T.size).sum
  | [], _ => by simp
  | a :: l, h => by
    have h1 := (fine_len a (h a (List.mem_cons_self ..))).2
    have h2 := fine_lens l fun t ht => h t (List.mem_cons_of_mem _ ht)
    simp only [List.map_cons, List.sum_cons]
    omega
end
theorem GoodE.size {e : T} (h : GoodE e) : e.size ≤ (xTree e).size := by
  have := xRead_size (xTree e)
  rwa [h.back] at this
mutual
theorem every_more {p q : T → Bool} (hpq : ∀ t, p t = true → q t = true) : ∀ t : T, t.every p = true → t.every q = true
  | .mk k s n l o, h => by
    rw [T.every, Bool.and_eq_true] at h ⊢
    exact ⟨hpq _ h.1, everys_more hpq l h.2⟩
theorem everys_more {p q : T → Bool} (hpq : ∀ t, p t = true → q t = true) : ∀ l : List T, T.everys p l = true → T.everys q l = true
  | [], _ => rfl
  | a :: l, h => by
    rw [T.everys, Bool.and_eq_true] at h ⊢
    exact ⟨every_more hpq a h.1, everys_more hpq l h.2⟩
end
theorem GoodE.fit {e : T} (h : GoodE e) (hs : (xTree e).size ≤ 10000) : fitE e := ⟨h.right, by have := h.size; omega, every_more (fun t ht => by
  unfold fairB at ht
  rw [Bool.and_eq_true, decide_eq_true_eq, decide_eq_true_eq] at ht
  rw [decide_eq_true_eq]
  omega) e h.fair⟩
theorem open_size (l : List T) : (pOpen l).size = (l.map T.size).sum + 1 := by
  have := T.size_eq (pOpen l)
  simpa [pOpen, T.kids] using this
theorem sum_ones : ∀ l : List By, (l.map fun _ => 1).sum = l.length
  | [] => rfl
  | a :: l => by
    rw [List.map_cons, List.sum_cons, sum_ones l, List.length_cons]
    omega
theorem names_size (l : List By) : (pNames l).size = l.length + 1 := by
  unfold pNames
  rw [open_size, List.map_map]
  have : l.map (T.size ∘ pAtom) = l.map fun _ => 1 := List.map_congr_left fun s _ => by
    have := T.size_eq (pAtom s)
    simpa [pAtom, T.kids] using this
  rw [this, sum_ones]
theorem good_fit_step (k : Int) (nm : By) (es : List T) (cs lf rt : List By) (ag : List Ag) (l : List Pl) (hl : ∀ p ∈ l, p.good → (pTree p).size ≤ 10000 → p.fit) : (Pl.mk k nm es cs lf rt ag l).good → (pTree (.mk k nm es cs lf rt ag l)).size ≤ 10000 → (Pl.mk k nm es cs lf rt ag l).fit := by
  intro hg hs
  rw [Pl.good, Pl.goods_all] at hg
  rw [Pl.fit, Pl.fits_all]
  rw [pTree, pTrees_map, open_size, List.map_append, List.sum_append] at hs
  obtain ⟨hh, hk⟩ := hg
  have hkid : ∀ p ∈ l, p.fit := fun p hp => hl p hp (hk p hp) (by
    have h1 := mem_le_sum (List.mem_map_of_mem (f := T.size) (List.mem_map_of_mem (f := pTree) hp))
    omega)
  have hnk : l.length ≤ 10000 := by
    have h1 := sum_len (l.map pTree)
    rw [List.length_map] at h1
    omega
  refine ⟨?_, hkid⟩
  rcases hh with ⟨rfl, _, rfl, rfl, rfl, rfl, rfl, _⟩ | ⟨rfl, _, ⟨e, rfl, he⟩, rfl, rfl, rfl, rfl, _⟩ | ⟨rfl, _, he, hec, _, _, rfl, rfl, rfl, _⟩ | ⟨rfl, _, rfl, rfl, _, _, rfl, _⟩ | ⟨rfl, _, rfl, rfl, rfl, rfl, rfl, _⟩ | ⟨rfl, _, rfl, rfl, rfl, rfl, rfl, _⟩ | ⟨rfl, _, rfl, rfl, _, rfl, _, _⟩
  · exact ⟨.inl rfl, (fun e h => by cases h), (fun h => by cases h), by simp, by simp, by simp, by simp, hnk⟩
  · have h1 : (([pAtom bFilter, xTree e] : List T).map T.size).sum + ((l.map pTree).map T.size).sum + 1 ≤ 10000 := hs
    simp only [List.map_cons, List.map_nil, List.sum_cons, List.sum_nil] at h1
    exact ⟨.inr (.inl rfl), (fun e' h => by simp at h; subst h; exact he.fit (by omega)), (fun h => by cases h), by simp, by simp, by simp, by simp, hnk⟩
  · have h1 : (((pAtom bProject :: List.zipWith colTree cs es) : List T).map T.size).sum + ((l.map pTree).map T.size).sum + 1 ≤ 10000 := hs
    simp only [List.map_cons, List.sum_cons] at h1
    have h2 := sum_len (List.zipWith colTree cs es)
    rw [List.length_zipWith] at h2
    refine ⟨.inr (.inr (.inl rfl)), fun e h => (he e h).fit ?_, fun _ => hec, by omega, by simp, by simp, by simp, hnk⟩
    obtain ⟨i, hi⟩ := List.getElem?_of_mem h
    have hil := (List.getElem?_eq_some_iff.1 hi).1
    obtain ⟨c, hc⟩ : ∃ c, cs[i]? = some c := ⟨_, List.getElem?_eq_getElem (by omega)⟩
    have hm : colTree c e ∈ List.zipWith colTree cs es := List.mem_of_getElem? (i := i) (by rw [List.getElem?_zipWith, hc, hi])
    have h3 := mem_le_sum (List.mem_map_of_mem (f := T.size) hm)
    have h4 : (colTree c e).size = (([pAtom c, xTree e] : List T).map T.size).sum + 1 := open_size _
    simp only [List.map_cons, List.map_nil, List.sum_cons, List.sum_nil] at h4
    omega
  · have h1 : (([pAtom bJoin, pNames lf, pNames rt] : List T).map T.size).sum + ((l.map pTree).map T.size).sum + 1 ≤ 10000 := hs
    simp only [List.map_cons, List.map_nil, List.sum_cons, List.sum_nil, names_size] at h1
    exact ⟨.inr (.inr (.inr (.inl rfl))), (fun e h => by cases h), (fun h => by cases h), by simp, by omega, by omega, by simp, hnk⟩
  · exact ⟨.inr (.inr (.inr (.inr (.inl rfl)))), (fun e h => by cases h), (fun h => by cases h), by simp, by simp, by simp, by simp, hnk⟩
  · exact ⟨.inr (.inr (.inr (.inr (.inr (.inl rfl))))), (fun e h => by cases h), (fun h => by cases h), by simp, by simp, by simp, by simp, hnk⟩
  · have h1 : (((pAtom bGroup :: pNames lf :: ag.map agTree) : List T).map T.size).sum + ((l.map pTree).map T.size).sum + 1 ≤ 10000 := hs
    simp only [List.map_cons, List.sum_cons, names_size] at h1
    have h2 := sum_len (ag.map agTree)
    rw [List.length_map] at h2
    exact ⟨.inr (.inr (.inr (.inr (.inr (.inr rfl))))), (fun e h => by cases h), (fun h => by cases h), by simp, by omega, by simp, by omega, hnk⟩
mutual
theorem good_fit : ∀ p : Pl, p.good → (pTree p).size ≤ 10000 → p.fit
  | .mk k nm es cs lf rt ag l => good_fit_step k nm es cs lf rt ag l (good_fits l)
theorem good_fits : ∀ l : List Pl, ∀ p ∈ l, p.good → (pTree p).size ≤ 10000 → p.fit
  | [] => fun p h => by cases h
  | a :: l => by
    intro p h
    rcases List.mem_cons.1 h with h1 | h1
    · rw [h1]; exact good_fit a
    · exact good_fits l p h1
end
/-- What is written of what was read. -/
structure WrT (p : Pl) : Prop where
  good : p.good
  fit : p.fit
  size : (pTree p).size ≤ 601
  len : (printS (pTree p)).length ≤ 1000000
  ne : printS (pTree p) ≠ []
  fits : fitsS (pTree p) = true
theorem wr_read {t : T} (hf : t.fine = true) (hs : t.size ≤ 601) (he : (pErr t).1 = 0) : WrT (pPlan t) ∧ pTree (pPlan t) = t.strip := by
  obtain ⟨h1, h2⟩ := fwdP t hf he
  have h3 := fine_len t hf
  refine ⟨⟨h2, good_fit _ h2 (by rw [h1, strip_size]; omega), by rw [h1, strip_size]; exact hs, by rw [h1, strip_print]; omega, ?_, ?_⟩, h1⟩
  · rw [h1, strip_print]
    intro e
    rw [e] at h3
    simp at h3
  · rw [h1]
    exact fits_fair _ (fine_fair _ (by rw [strip_fine]; exact hf)).1
end Go.Proofs.YtojbahjebfcmgaaGreatDoor

namespace Go.Proofs.YtojbahjebfcmgaaGreatDoor
open Go.RowKit
set_option linter.unusedVariables false

/-- What Read makes of a text. -/
structure WrP (p : Pl) : Prop where
  wr : WrT p
  deep : (pTree p).deep ≤ 12
  len6 : (printS (pTree p)).length ≤ 600
theorem pRead_wr (s : By) (h : (pRead s).2.1 = 0) : WrP (pRead s).1 := by
  unfold pRead at h ⊢
  by_cases hc : (sxRead s).2.1 = 0
  · rw [if_pos (by simp [hc])] at h ⊢
    obtain ⟨h1, h2, h3⟩ := sx_reads s hc
    unfold pFrom at h ⊢
    by_cases he : (pErr (sxRead s).1).1 = 0
    · rw [if_pos (by simp [he])] at h ⊢
      by_cases hl : 600 < (printS (pTree (pPlan (sxRead s).1))).length
      · rw [if_pos hl] at h
        exact absurd h (by decide)
      · rw [if_neg hl]
        obtain ⟨h4, h5⟩ := wr_read h1 h3 he
        refine ⟨h4, ?_, by show (printS (pTree (pPlan (sxRead s).1))).length ≤ 600; omega⟩
        show (pTree (pPlan (sxRead s).1)).deep ≤ 12
        rw [h5, strip_deep]
        exact h2
    · rw [if_neg (by simpa using he)] at h
      exact absurd h he
  · rw [if_neg (by simpa using hc)] at h
    exact absurd h hc
theorem pRead_bad (s : By) (h : (pRead s).2.1 ≠ 0) : (pRead s).1 = pZero := by
  unfold pRead at h ⊢
  split
  · rename_i hc
    rw [if_pos hc] at h
    unfold pFrom at h ⊢
    split
    · rename_i he
      rw [if_pos he] at h
      split
      · rfl
      · rename_i hl
        rw [if_neg hl] at h
        exact absurd rfl h
    · rfl
  · rfl
theorem pRead_print (p : Pl) (h : p.good) : ((printS (pTree p)).length ≤ 600 → (pTree p).deep ≤ 12 → pRead (printS (pTree p)) = (p, 0, 0)) ∧
    (600 < (printS (pTree p)).length → (pRead (printS (pTree p))).2.1 = 3) ∧ ((printS (pTree p)).length ≤ 600 → 12 < (pTree p).deep → (pRead (printS (pTree p))).2.1 = 14) := by
  obtain ⟨h1, h2, h3⟩ := backP p h
  obtain ⟨r1, r2, r3⟩ := read_print (pTree p) h3
  refine ⟨fun hl hd => ?_, fun hl => ?_, fun hl hd => ?_⟩
  · obtain ⟨t', ht, hr⟩ := r2 hl hd
    have hp : pPlan t' = p := by rw [← plan_strip, ht, plan_strip, h1]
    have he : (pErr t').1 = 0 := by rw [← err_strip, ht, err_strip, h2]
    unfold pRead pFrom
    rw [hr]
    simp only [beq_self_eq_true, if_true, he, hp]
    rw [if_neg (by omega)]
  · unfold pRead
    rw [r1 hl]
    rfl
  · obtain ⟨x, hx⟩ := r3 hl hd
    unfold pRead
    rw [hx]
    rfl
theorem wr_good {p : Pl} (hg : p.good) (hs : (pTree p).size ≤ 601) (hl : (printS (pTree p)).length ≤ 600) : WrT p := by
  obtain ⟨_, _, h3⟩ := backP p hg
  have h4 := fine_len _ h3
  refine ⟨hg, good_fit p hg (by omega), hs, by omega, fun e => ?_, fits_fair _ (fine_fair _ h3).1⟩
  rw [e] at h4
  simp at h4
theorem printL_mem : ∀ (l : List T) (b : Bool) (t : T), t ∈ l → (printS t).length ≤ (printL b l).length
  | [], _, _, h => by cases h
  | a :: l, b, t, h => by
    rw [printL, List.length_append, List.length_append]
    rcases List.mem_cons.1 h with h1 | h1
    · rw [h1]; omega
    · have := printL_mem l false t h1
      omega
theorem deeps_mem : ∀ (l : List T) (t : T), t ∈ l → t.deep ≤ T.deeps l
  | [], _, h => by cases h
  | a :: l, t, h => by
    rw [T.deeps]
    rcases List.mem_cons.1 h with h1 | h1
    · rw [h1]; exact Nat.le_max_left _ _
    · exact Nat.le_trans (deeps_mem l t h1) (Nat.le_max_right _ _)
theorem open_len (l : List T) : (printS (pOpen l)).length = (printL true l).length + 2 := by
  rw [pOpen, open_print, List.length_cons, List.length_append]
  rfl
theorem open_deep (l : List T) : (pOpen l).deep = T.deeps l + 1 := by rw [pOpen, T.deep, if_pos rfl]
theorem pTree_eq (p : Pl) : pTree p = pOpen (pHead p.kind p.name p.exprs p.cols p.left p.right p.aggs ++ p.kids.map pTree) := by
  cases p
  rw [pTree, pTrees_map]
  rfl
theorem good_kids {p : Pl} (h : p.good) : ∀ k ∈ p.kids, k.good := by
  cases p
  rw [Pl.good, Pl.goods_all] at h
  exact h.2
theorem kid_wr {p k : Pl} (h : WrP p) (hk : k ∈ p.kids) : WrP k := by
  have hm : pTree k ∈ pHead p.kind p.name p.exprs p.cols p.left p.right p.aggs ++ p.kids.map pTree := List.mem_append_right _ (List.mem_map_of_mem hk)
  have h1 := h.wr.size
  have h2 := h.len6
  have h3 := h.deep
  rw [pTree_eq p] at h1 h2 h3
  rw [open_size] at h1
  rw [open_len] at h2
  rw [open_deep] at h3
  have e1 := mem_le_sum (List.mem_map_of_mem (f := T.size) hm)
  have e2 := printL_mem _ true _ hm
  have e3 := deeps_mem _ _ hm
  exact ⟨wr_good (good_kids h.wr.good k hk) (by omega) (by omega), by omega, by omega⟩

-- Sums over all parts of a plan.
mutual
def Pl.sum (f : Pl → Nat) : Pl → Nat
  | .mk k nm es cs lf rt ag l => f (.mk k nm es cs lf rt ag l) + Pl.sums f l
def Pl.sums (f : Pl → Nat) : List Pl → Nat
  | [] => 0
  | p :: l => p.sum f + Pl.sums f l
end
theorem Pl.sums_map (f : Pl → Nat) : ∀ l : List Pl, Pl.sums f l = (l.map (Pl.sum f)).sum
  | [] => by simp [Pl.sums]
  | p :: l => by simp [Pl.sums, Pl.sums_map f l]
theorem Pl.sum_eq (f : Pl → Nat) (p : Pl) : p.sum f = f p + (p.kids.map (Pl.sum f)).sum := by
  cases p
  rw [Pl.sum, Pl.sums_map]
  rfl
mutual
theorem size_sum : ∀ p : Pl, p.sum (fun _ => 1) = p.size
  | .mk k nm es cs lf rt ag l => by rw [Pl.sum, Pl.size, sizes_sums l]; omega
theorem sizes_sums : ∀ l : List Pl, Pl.sums (fun _ => 1) l = Pl.sizes l
  | [] => by simp [Pl.sums, Pl.sizes]
  | p :: l => by rw [Pl.sums, Pl.sizes, size_sum p, sizes_sums l]
end
theorem Pl.size_eq (p : Pl) : p.size = (p.kids.map Pl.size).sum + 1 := by
  cases p
  rw [Pl.size, Pl.sizes_sum]
  rfl
theorem Pl.size_pos (p : Pl) : 1 ≤ p.size := by rw [Pl.size_eq]; omega
/-- Is it the table of that name? -/
def tabF (s : By) (p : Pl) : Nat := if p.kind = 1 ∧ p.name = s then 1 else 0
/-- The parts of a plan that Read makes. -/
def partF (p : Pl) : Nat := p.exprs.length + p.cols.length + p.left.length + p.right.length + p.aggs.length
theorem sum_le_sum {α : Type} {f g : α → Nat} : ∀ l : List α, (∀ x ∈ l, f x ≤ g x) → (l.map f).sum ≤ (l.map g).sum
  | [], _ => by simp
  | a :: l, h => by
    have h1 := h a (List.mem_cons_self ..)
    have h2 := sum_le_sum l fun x hx => h x (List.mem_cons_of_mem _ hx)
    simp only [List.map_cons, List.sum_cons]
    omega

-- How long what is printed is, at least.
theorem printL_ge : ∀ (l : List T) (b : Bool), (∀ t ∈ l, 1 ≤ (printS t).length) → (l.map fun t => (printS t).length).sum + l.length ≤ (printL b l).length + (if b then 1 else 0)
  | [], b, _ => by simp
  | a :: l, b, h => by
    have h2 := printL_ge l false fun t ht => h t (List.mem_cons_of_mem _ ht)
    rw [printL, List.length_append, List.length_append, List.map_cons, List.sum_cons, List.length_cons]
    cases b <;> simp at h2 ⊢ <;> omega
theorem fines_pos {l : List T} (h : ∀ t ∈ l, t.fine = true) : ∀ t ∈ l, 1 ≤ (printS t).length := fun t ht => (fine_len t (h t ht)).1
theorem sum_ge_len {l : List T} (h : ∀ t ∈ l, 1 ≤ (printS t).length) : l.length ≤ (l.map fun t => (printS t).length).sum := by
  have := sum_le_sum (f := fun _ => 1) l h
  have e : ∀ l : List T, (l.map fun _ => 1).sum = l.length := fun l => by
    induction l with
    | nil => rfl
    | cons a l ih => rw [List.map_cons, List.sum_cons, ih, List.length_cons]; omega
  rw [e] at this
  exact this
theorem open_fine_inv {l : List T} (h : (pOpen l).fine = true) : ∀ t ∈ l, t.fine = true := by
  rcases fine_cases h with ⟨_, _, _, h4⟩ | ⟨h1, _⟩ | ⟨h1, _⟩ | ⟨h1, _⟩
  · exact h4
  · exact absurd h1 (by decide)
  · exact absurd h1 (by decide)
  · exact absurd h1 (by decide)
theorem names_ge (l : List By) (h : (pNames l).fine = true) : l.length + 1 ≤ (printS (pNames l)).length := by
  have h1 := printL_ge (l.map pAtom) true (fines_pos (open_fine_inv h))
  have h2 := sum_ge_len (fines_pos (open_fine_inv h))
  rw [pNames, open_len]
  rw [List.length_map] at h1 h2
  simp at h1
  omega
/-- A plan and what is printed of it: its own parts are no more than its bytes, its kids' apart. -/
theorem part_len {p : Pl} (hg : p.good) : partF p + 1 + (p.kids.map fun k => (printS (pTree k)).length).sum ≤ (printS (pTree p)).length := by
  obtain ⟨_, _, hf⟩ := backP p hg
  rw [pTree_eq p] at hf
  have hall := open_fine_inv hf
  have hpos := fines_pos hall
  have h1 := printL_ge _ true hpos
  rw [pTree_eq p, open_len]
  rw [List.map_append, List.sum_append, List.length_append, List.length_map, List.map_map] at h1
  have ek : (p.kids.map ((fun t => (printS t).length) ∘ pTree)).sum = (p.kids.map fun k => (printS (pTree k)).length).sum := rfl
  rw [ek] at h1
  have hgl : goodHead p.kind p.name p.exprs p.cols p.left p.right p.aggs p.kids.length := by
    cases p
    rw [Pl.good] at hg
    exact hg.1
  have hhead : ∀ t ∈ pHead p.kind p.name p.exprs p.cols p.left p.right p.aggs, 1 ≤ (printS t).length := fun t ht => hpos t (List.mem_append_left _ ht)
  have hheadf : ∀ t ∈ pHead p.kind p.name p.exprs p.cols p.left p.right p.aggs, t.fine = true := fun t ht => hall t (List.mem_append_left _ ht)
  have h2 := sum_ge_len hhead
  simp only [if_true] at h1
  suffices hp : partF p ≤ ((pHead p.kind p.name p.exprs p.cols p.left p.right p.aggs).map fun t => (printS t).length).sum + (pHead p.kind p.name p.exprs p.cols p.left p.right p.aggs).length by omega
  unfold partF
  rcases hgl with ⟨hk, _, he, hc, hl, hr, ha, _⟩ | ⟨hk, _, ⟨e, he, _⟩, hc, hl, hr, ha, _⟩ | ⟨hk, _, _, hec, _, _, hl, hr, ha, _⟩ | ⟨hk, _, he, hc, _, _, ha, _⟩ | ⟨hk, _, he, hc, hl, hr, ha, _⟩ | ⟨hk, _, he, hc, hl, hr, ha, _⟩ | ⟨hk, _, he, hc, _, hr, _, _⟩
  · rw [he, hc, hl, hr, ha]; simp
  · rw [he, hc, hl, hr, ha, hk]
    rw [he, hk] at h2
    simp [pHead] at h2 ⊢
  · rw [hl, hr, ha, hk]
    rw [hk] at h2
    have e1 : (pHead 3 p.name p.exprs p.cols p.left p.right p.aggs).length = 1 + p.cols.length := by
      show (pAtom bProject :: List.zipWith colTree p.cols p.exprs).length = _
      rw [List.length_cons, List.length_zipWith]
      omega
    rw [hl, hr, ha] at h2 e1
    simp only [List.length_nil]
    omega
  · rw [he, hc, ha, hk]
    rw [hk] at hheadf
    have f1 := names_ge p.left (hheadf _ (by simp [pHead]))
    have f2 := names_ge p.right (hheadf _ (by simp [pHead]))
    simp [pHead]
    omega
  · rw [he, hc, hl, hr, ha]; simp
  · rw [he, hc, hl, hr, ha]; simp
  · rw [he, hc, hr, hk]
    rw [hk] at hheadf
    have f1 := names_ge p.left (hheadf _ (by simp [pHead]))
    simp [pHead]
    omega
mutual
theorem parts_len : ∀ p : Pl, p.good → p.sum (fun q => partF q + 1) ≤ (printS (pTree p)).length
  | .mk k nm es cs lf rt ag l, hg => by
    have h1 := part_len hg
    have h2 := parts_lens l (good_kids hg)
    rw [Pl.sum]
    simp only [Pl.kids] at h1
    omega
theorem parts_lens : ∀ l : List Pl, (∀ p ∈ l, p.good) → Pl.sums (fun q => partF q + 1) l ≤ (l.map fun k => (printS (pTree k)).length).sum
  | [], _ => by simp [Pl.sums]
  | p :: l, h => by
    have h1 := parts_len p (h p (List.mem_cons_self ..))
    have h2 := parts_lens l fun x hx => h x (List.mem_cons_of_mem _ hx)
    rw [Pl.sums, List.map_cons, List.sum_cons]
    omega
end
theorem sums_add (f g : Pl → Nat) : (∀ p : Pl, p.sum (fun q => f q + g q) = p.sum f + p.sum g) ∧ ∀ l : List Pl, Pl.sums (fun q => f q + g q) l = Pl.sums f l + Pl.sums g l := by
  have step : ∀ (N : Nat), (∀ p : Pl, p.size ≤ N → p.sum (fun q => f q + g q) = p.sum f + p.sum g) ∧ ∀ l : List Pl, Pl.sizes l ≤ N → Pl.sums (fun q => f q + g q) l = Pl.sums f l + Pl.sums g l := by
    intro N
    induction N with
    | zero =>
      refine ⟨fun p hp => by have := Pl.size_pos p; omega, fun l hl => ?_⟩
      cases l with
      | nil => simp [Pl.sums]
      | cons p l => rw [Pl.sizes] at hl; have := Pl.size_pos p; omega
    | succ N ih =>
      have hp : ∀ p : Pl, p.size ≤ N + 1 → p.sum (fun q => f q + g q) = p.sum f + p.sum g := by
        intro p hp
        cases p with
        | mk k nm es cs lf rt ag l =>
          rw [Pl.size] at hp
          have := ih.2 l (by omega)
          rw [Pl.sum, Pl.sum, Pl.sum, this]
          omega
      refine ⟨hp, fun l => ?_⟩
      induction l with
      | nil => intro _; simp [Pl.sums]
      | cons p l ihl =>
        intro hl
        rw [Pl.sizes] at hl
        rw [Pl.sums, Pl.sums, Pl.sums, hp p (by omega), ihl (by omega)]
        omega
  exact ⟨fun p => (step p.size).1 p (Nat.le_refl _), fun l => (step (Pl.sizes l)).2 l (Nat.le_refl _)⟩
/-- A plan that Read makes is small. -/
theorem wr_small {p : Pl} (h : WrP p) : p.size + p.sum partF ≤ 600 := by
  have h1 := parts_len p h.wr.good
  rw [(sums_add partF (fun _ => 1)).1, size_sum] at h1
  have := h.len6
  omega

-- What wraps a plan.
def ltA5 : T := .mk 4 [108, 116] 0 [.mk 1 [97] 0 [] 0, .mk 2 [] 5 [] 0] 0
def exA : T := .mk 1 [97] 0 [] 0
def exQ : T := .mk 3 [113] 0 [] 0
def wPlan : Nat → Pl → Pl
  | 0, p => .mk 6 [] [] [] [] [] [] [p]
  | 1, p => .mk 2 [] [ltA5] [] [] [] [] [p]
  | 2, p => .mk 3 [] [exA, exQ] [[120], [121]] [] [] [] [p]
  | 3, p => .mk 7 [] [] [] [[97], [98]] [] [([110], bCount, []), ([109], bMax, [99])] [p]
  | _, p => .mk 5 [] [] [] [] [] [] [.mk 1 [122, 122] [] [] [] [] [] [], p]
def wHead : Nat → By
  | 0 => [40, 100, 105, 115, 116, 105, 110, 99, 116, 32]
  | 1 => [40, 102, 105, 108, 116, 101, 114, 32, 40, 108, 116, 32, 97, 32, 53, 41, 32]
  | 2 => [40, 112, 114, 111, 106, 101, 99, 116, 32, 40, 120, 32, 97, 41, 32, 40, 121, 32, 34, 113, 34, 41, 32]
  | 3 => [40, 103, 114, 111, 117, 112, 32, 40, 97, 32, 98, 41, 32, 40, 110, 32, 99, 111, 117, 110, 116, 41, 32, 40, 109, 32, 109, 97, 120, 32, 99, 41, 32]
  | _ => [40, 117, 110, 105, 111, 110, 32, 40, 116, 97, 98, 108, 101, 32, 122, 122, 41, 32]
def wKind : Nat → Int
  | 0 => 6
  | 1 => 2
  | 2 => 3
  | 3 => 7
  | _ => 5
def wList : Nat → List T
  | 0 => [pAtom bDistinct]
  | 1 => [pAtom bFilter, xTree ltA5]
  | 2 => [pAtom bProject, colTree [120] exA, colTree [121] exQ]
  | 3 => [pAtom bGroup, pNames [[97], [98]], agTree ([110], bCount, []), agTree ([109], bMax, [99])]
  | _ => [pAtom bUnion, pTree (.mk 1 [122, 122] [] [] [] [] [] [])]
theorem five_of {k : Nat} (h : k < 5) : k = 0 ∨ k = 1 ∨ k = 2 ∨ k = 3 ∨ k = 4 := by omega
theorem wPlan_tree {k : Nat} (hk : k < 5) (p : Pl) : pTree (wPlan k p) = pOpen (wList k ++ [pTree p]) := by
  rcases five_of hk with rfl | rfl | rfl | rfl | rfl <;> (rw [pTree_eq]; rfl)
theorem wList_print {k : Nat} (hk : k < 5) : 40 :: (printL true (wList k) ++ [32]) = wHead k := by
  rcases five_of hk with rfl | rfl | rfl | rfl | rfl <;> kernel_rfl
theorem wPlan_print {k : Nat} (hk : k < 5) (p : Pl) : printS (pTree (wPlan k p)) = wHead k ++ (printS (pTree p) ++ [41]) := by
  rw [wPlan_tree hk, pOpen, open_print, printL_snoc]
  have hne : (wList k).isEmpty = false := by rcases five_of hk with rfl | rfl | rfl | rfl | rfl <;> rfl
  rw [hne, ← wList_print hk]
  simp
theorem good_lt : GoodE ltA5 := ⟨by kernel_rfl, by kernel_rfl, by kernel_rfl, by kernel_rfl⟩
theorem good_a : GoodE exA := ⟨by kernel_rfl, by kernel_rfl, by kernel_rfl, by kernel_rfl⟩
theorem good_q : GoodE exQ := ⟨by kernel_rfl, by kernel_rfl, by kernel_rfl, by kernel_rfl⟩
theorem wPlan_good {k : Nat} (hk : k < 5) {p : Pl} (hp : p.good) : (wPlan k p).good := by
  have n1 : ∀ s ∈ ([[97], [98], [120], [121], [110], [109], [99], [122, 122]] : List By), xName s = true := by decide +kernel
  rcases five_of hk with rfl | rfl | rfl | rfl | rfl
  · exact ⟨.inr (.inr (.inr (.inr (.inr (.inl ⟨rfl, rfl, rfl, rfl, rfl, rfl, rfl, rfl⟩))))), hp, trivial⟩
  · exact ⟨.inr (.inl ⟨rfl, rfl, ⟨_, rfl, good_lt⟩, rfl, rfl, rfl, rfl, rfl⟩), hp, trivial⟩
  · refine ⟨.inr (.inr (.inl ⟨rfl, rfl, ?_, rfl, by decide, ?_, rfl, rfl, rfl, rfl⟩)), hp, trivial⟩
    · intro e he
      simp only [List.mem_cons, List.not_mem_nil, or_false] at he
      rcases he with rfl | rfl
      · exact good_a
      · exact good_q
    · intro s hs
      exact n1 s (by simp only [List.mem_cons, List.not_mem_nil, or_false] at hs ⊢; rcases hs with rfl | rfl <;> simp)
  · refine ⟨.inr (.inr (.inr (.inr (.inr (.inr ⟨rfl, rfl, rfl, rfl, ?_, rfl, ?_, rfl⟩))))), hp, trivial⟩
    · intro s hs
      exact n1 s (by simp only [List.mem_cons, List.not_mem_nil, or_false] at hs ⊢; rcases hs with rfl | rfl <;> simp)
    · intro a ha
      simp only [List.mem_cons, List.not_mem_nil, or_false] at ha
      rcases ha with rfl | rfl
      · exact ⟨n1 _ (by simp), .inl ⟨rfl, rfl⟩⟩
      · exact ⟨n1 _ (by simp), .inr ⟨.inr (.inr rfl), n1 _ (by simp)⟩⟩
  · exact ⟨.inr (.inr (.inr (.inr (.inl ⟨rfl, rfl, rfl, rfl, rfl, rfl, rfl, rfl⟩)))), ⟨.inl ⟨rfl, n1 _ (by simp), rfl, rfl, rfl, rfl, rfl, rfl⟩, trivial⟩, hp, trivial⟩
/-- A plan that is wrapped is read as that form of it, or is too long or too deep. -/
theorem wrap_read {k : Nat} (hk : k < 5) {p : Pl} (hp : p.good) : (pRead (wHead k ++ (printS (pTree p) ++ [41])) = (wPlan k p, 0, 0)) ∨ (pRead (wHead k ++ (printS (pTree p) ++ [41]))).2.1 = 3 ∨ (pRead (wHead k ++ (printS (pTree p) ++ [41]))).2.1 = 14 := by
  obtain ⟨h1, h2, h3⟩ := pRead_print (wPlan k p) (wPlan_good hk hp)
  rw [← wPlan_print hk]
  by_cases hl : (printS (pTree (wPlan k p))).length ≤ 600
  · by_cases hd : (pTree (wPlan k p)).deep ≤ 12
    · exact .inl (h1 hl hd)
    · exact .inr (.inr (h3 hl (by omega)))
  · exact .inr (.inl (h2 (by omega)))
theorem wPlan_size {k : Nat} (hk : k < 5) (p : Pl) : (wPlan k p).size = p.size + if k = 4 then 2 else 1 := by
  rcases five_of hk with rfl | rfl | rfl | rfl | rfl <;> simp [wPlan, Pl.size, Pl.sizes] <;> omega
theorem wPlan_tabs {k : Nat} (hk : k < 4) (p : Pl) (s : By) : (wPlan k p).sum (tabF s) = p.sum (tabF s) := by
  rcases five_of (by omega : k < 5) with rfl | rfl | rfl | rfl | rfl
  · rw [Pl.sum_eq]; simp [wPlan, tabF, Pl.kind, Pl.kids]
  · rw [Pl.sum_eq]; simp [wPlan, tabF, Pl.kind, Pl.kids]
  · rw [Pl.sum_eq]; simp [wPlan, tabF, Pl.kind, Pl.kids]
  · rw [Pl.sum_eq]; simp [wPlan, tabF, Pl.kind, Pl.kids]
  · omega
-- The texts of the closed runs.
def pt1 : By := [40, 32, 102, 105, 108, 116, 101, 114, 32, 40, 108, 116, 32, 97, 32, 53, 41, 40, 116, 97, 98, 108, 101, 32, 116, 41, 32, 41]
def pt2 : By := [40, 116, 97, 98, 108, 101, 32, 53, 41]
def pt3 : By := [40, 102, 105, 108, 116, 101, 114, 32, 40, 108, 116, 32, 97, 32, 53, 41, 32, 40, 116, 97, 98, 108, 101, 32, 116, 41, 41]
def ptP : Pl := .mk 2 [] [ltA5] [] [] [] [] [.mk 1 [116] [] [] [] [] [] []]
theorem pt1_read : pRead pt1 = (ptP, 0, 0) := by kernel_rfl
theorem pt2_read : pRead pt2 = (pZero, 12, 0) := by kernel_rfl
theorem pt3_print : printS (pTree ptP) = pt3 := by kernel_rfl
theorem ptP_wr : WrP ptP := by
  have := pRead_wr pt1 (by rw [pt1_read])
  rwa [pt1_read] at this
theorem ptP_size : ptP.size = 2 := rfl
end Go.Proofs.YtojbahjebfcmgaaGreatDoor

namespace Go.Proofs.YtojbahjebfcmgaaGreatDoor
open Go.RowKit
set_option linter.unusedVariables false

/-- What Read gives. -/
def PReadOut (R : PRes) (w : World) (e : Ending) (w' : World) : Prop := ∃ m : PM, e = .returned (.tuple #[.agg #[.int .i64 m.kind, .string ⟨m.name.toArray⟩, .slice m.ex.A m.ex.l.length m.ex.cap, .slice m.co.A m.co.l.length m.co.cap, .slice m.lf.A m.lf.l.length m.lf.cap, .slice m.rt.A m.rt.l.length m.rt.cap, .slice m.ag.A m.ag.l.length m.ag.cap, .slice m.A m.kids.length m.cap], .int .i64 R.2.1, .int .i64 (R.2.2 : Int)]) ∧ m.p = R.1 ∧ Qx w.heap.size [] w' m ∧ Ev w w'
theorem bx_one8 (w : World) : ∃ w0, w.alloc (.cells #[.int .i64 0, .string ⟨#[]⟩, .slice none 0 0, .slice none 0 0, .slice none 0 0, .slice none 0 0, .slice none 0 0, .slice none 0 0] 27) = w0 ∧ Ev w w0 ∧ Bx 27 w.heap.size #[.int .i64 0, .string ⟨#[]⟩, .slice none 0 0, .slice none 0 0, .slice none 0 0, .slice none 0 0, .slice none 0 0, .slice none 0 0] w0 ∧ w0.heap.size = w.heap.size + 1 := ⟨_, rfl, Ev.alloc _ _, Bx.new _ _ _, by simp⟩

set_option maxRecDepth 100000 in
set_option maxHeartbeats 16000000 in
theorem pl_ReadBad (s : By) (w : World) (hs : s.length ≤ 100000) (hc : ¬ (sxRead s).2.1 = 0) : Calls Tryz.prog 8 #[.string ⟨s.toArray⟩] w (PReadOut (pRead s) w) := by
  have hP : pRead s = (pZero, (sxRead s).2.1, (sxRead s).2.2) := by
    unfold pRead
    rw [if_neg (by simpa using hc)]
  rw [hP]
  have hS := fun w1 => sx_read ⟨s.toArray⟩ w1 (by simpa [ByteArray.size] using hs)
  simp only at hS
  unfold ReadOut at hS
  unfold PReadOut
  generalize (sxRead s).2.1 = c at *
  generalize (sxRead s).2.2 = ps at *
  have HS := Lib.hid hS
  obtain ⟨w0, hw0, hE0, hR, hs0⟩ := bx_one8 w
  have HR := Lib.hid hR
  have HE := Lib.hid hE0
  clear hP hS hR hE0 hs
  go_enter Tryz.func8, Tryz.ntmps8
  go_wp2_with (first
    | ((with_reducible refine (HS.out _).mono ?_); rintro r w1 ⟨t, rfl, ht, hl, hE1⟩; have HE1 := Lib.hid hE1; obtain ⟨⟨r0, r1, r2, r3, r4, r5, r6, r7⟩, s0, s1, s2, s3, s4, s5, s6, s7⟩ := (HR.out.ev (hE1.trans (Ev.alloc w1 (.cells #[.int .i64 t.kind, .string ⟨t.s.toArray⟩, .int .i64 t.n, .slice t.A t.kids.length t.cap, .int .i64 (t.pos : Int)] 67)))).eight; clear ht hl hE1))
  (try simp only [Exit.inBlock, Exit.then])
  rw [set8_fold]
  have hBR := HR.out.ev (HE1.out.trans (Ev.alloc w1 (.cells #[.int .i64 t.kind, .string ⟨t.s.toArray⟩, .int .i64 t.n, .slice t.A t.kids.length t.cap, .int .i64 (t.pos : Int)] 67)))
  refine bodyPost_ret (results_cell2' rfl _ _ _ _ _ rfl (hBR.set8 _ _ _ _ _ _ _ _) Tryz.underlying27 rfl Tryz.sizePlan) rfl ?_
  exact ⟨pmZero, rfl, pmZero_p, Qx.zero _ _ _, (HE.out.trans (HE1.out.trans (Ev.alloc _ _))).box (set8_but _ _ _ _ _ _ _ _ _ _) (Nat.le_refl _)⟩
end Go.Proofs.YtojbahjebfcmgaaGreatDoor

namespace Go.Proofs.YtojbahjebfcmgaaGreatDoor
open Go.RowKit
set_option linter.unusedVariables false

theorem bx_rd (w : World) (c0 c1 c2 c3 c4 : Value) : ∃ w2, (w.alloc (.cells #[c0, c1, c2, c3, c4] 67)).alloc (.cells #[.int .i64 0, .int .i64 0] 71) = w2 ∧ Ev w w2 ∧ Bx 67 w.heap.size #[c0, c1, c2, c3, c4] w2 ∧ Rb (w.heap.size + 1) (0, 0) w2 ∧ w2.heap.size = w.heap.size + 2 := by
  have hB := Bx.new 71 #[.int .i64 0, .int .i64 0] (w.alloc (.cells #[c0, c1, c2, c3, c4] 67))
  rw [show (w.alloc (.cells #[c0, c1, c2, c3, c4] 67)).heap.size = w.heap.size + 1 by simp] at hB
  exact ⟨_, rfl, (Ev.alloc w _).trans (Ev.alloc _ _), (Bx.new 67 #[c0, c1, c2, c3, c4] w).ev (Ev.alloc _ _), hB, by simp⟩
theorem bx_any8 (w : World) (c0 c1 c2 c3 c4 c5 c6 c7 : Value) : ∃ w4, w.alloc (.cells #[c0, c1, c2, c3, c4, c5, c6, c7] 27) = w4 ∧ Ev w w4 ∧ Bx 27 w.heap.size #[c0, c1, c2, c3, c4, c5, c6, c7] w4 := ⟨_, rfl, Ev.alloc _ _, Bx.new _ _ _⟩
theorem orE_l (e : Er) : ((orE (0, 0) e).1 = 0 ↔ e.1 = 0) ∧ (e.1 ≠ 0 → orE (0, 0) e = e) := by
  unfold orE
  by_cases h : e.1 = 0
  · simp [h]
  · simp [h]

set_option maxRecDepth 100000 in
set_option maxHeartbeats 16000000 in
theorem pl_ReadErr (s : By) (w : World) (hT : Tab w) (hs : s.length ≤ 100000) (hc : (sxRead s).2.1 = 0) (he : ¬ (pErr (sxRead s).1).1 = 0) : Calls Tryz.prog 8 #[.string ⟨s.toArray⟩] w (PReadOut (pRead s) w) := by
  have hP : pRead s = pFrom (sxRead s).1 := by
    unfold pRead
    rw [if_pos (by simpa using hc)]
  obtain ⟨hfine, hdeep, hsize⟩ := sx_reads s hc
  have hS := fun w1 => sx_read ⟨s.toArray⟩ w1 (by simpa [ByteArray.size] using hs)
  simp only at hS
  unfold ReadOut at hS
  rw [hc] at hS
  rw [hP]
  unfold PReadOut
  generalize (sxRead s).2.2 = ps at *
  generalize (sxRead s).1 = TT at *
  have hR1 : pFrom TT = (pZero, (pErr TT).1, (pErr TT).2) := by
    unfold pFrom
    rw [if_neg (by simpa using he)]
  rw [hR1]
  have HO := Lib.hid ((orE_l (pErr TT)).2 he)
  obtain ⟨⟨ec, ep⟩, hPE⟩ : ∃ e, e = pErr TT := ⟨_, rfl⟩
  rw [← hPE] at he HO ⊢
  simp only at he ⊢
  have HPE := Lib.hid hPE
  clear hR1 hPE
  have HS := Lib.hid hS
  have HF := Lib.hid hfine
  have HZ := Lib.hid hsize
  have HTab := Lib.hid hT
  obtain ⟨w0, hw0, hE0, hR, hs0⟩ := bx_one8 w
  have HR := Lib.hid hR
  have HE := Lib.hid hE0
  clear hP hS hR hE0 hs hc hfine hdeep hsize hT
  go_enter Tryz.func8, Tryz.ntmps8
  go_wp2_with (first
    | ((with_reducible refine (HS.out _).mono ?_); rintro r w1 ⟨t, rfl, ht, hl, hE1⟩; obtain ⟨w2, hw2, hE2, hT2, hRb2, hs2⟩ := bx_rd w1 (.int .i64 t.kind) (.string ⟨t.s.toArray⟩) (.int .i64 t.n) (.slice t.A t.kids.length t.cap) (.int .i64 (t.pos : Int)); have HE1 := Lib.hid hE1; have HE2 := Lib.hid hE2; have HT := Lib.hid ht; have HL := Lib.hid hl; have HRB := Lib.hid hRb2; have HS1 := Lib.hid hE1.size; obtain ⟨⟨d0, d1, d2, d3, d4⟩, _⟩ := hT2.five; clear ht hl hE1 hE2 hT2 hRb2))
  have hLL := (HL.out.less (K' := [w1.heap.size + 1]) fun k hk => by simp at hk; subst hk; exact .inr (.inr (by omega))).ev HE2.out
  have HPL := Lib.hid (rd_plan t.dep t (w1.heap.size + 1) (0, 0) w0.heap.size w2 (Nat.le_refl _) HRB.out hLL (by rw [HT.out]; exact (fine_fair _ HF.out).1) (by rw [HT.out]; have := HZ.out; omega))
  clear hLL
  refine (HPL.out).mono ?_
  rintro r w3 ⟨p, rfl, hpp, hpq, hRO⟩
  rw [HT.out] at hpp hRO
  rw [← HPE.out, HO.out] at hRO
  obtain ⟨w4, hw4, hE4, hB4⟩ := bx_any8 w3 (.int .i64 p.kind) (.string ⟨p.name.toArray⟩) (.slice p.ex.A p.ex.l.length p.ex.cap) (.slice p.co.A p.co.l.length p.co.cap) (.slice p.lf.A p.lf.l.length p.lf.cap) (.slice p.rt.A p.rt.l.length p.rt.cap) (.slice p.ag.A p.ag.l.length p.ag.cap) (.slice p.A p.kids.length p.cap)
  have HPP := Lib.hid hpp
  have HPQ := Lib.hid hpq
  have HRO := Lib.hid hRO
  have HE4 := Lib.hid hE4
  have HB4 := Lib.hid hB4
  have hev3 : Ev w w3 := But.to_ev (HE.out.trans (HE1.out.trans HE2.out)) hRO.but fun k hk => by simp at hk; subst hk; have := HS1.out; omega
  have HEV := Lib.hid (hev3.trans hE4)
  have HRX := Lib.hid (((HR.out.ev (HE1.out.trans HE2.out)).but hRO.but (by simp; have := HS1.out; omega)).ev hE4)
  obtain ⟨⟨q0, q1⟩, _⟩ := (hRO.bx.ev hE4).two
  (try simp only at q0 q1)
  obtain ⟨⟨p0, p1, p2, p3, p4, p5, p6, p7⟩, _⟩ := hB4.eight
  obtain ⟨⟨r0, r1, r2, r3, r4, r5, r6, r7⟩, s0, s1, s2, s3, s4, s5, s6, s7⟩ := HRX.out.eight
  clear hev3 hpp hpq hRO hE4 hB4 d0 d1 d2 d3 d4 HPL
  go_wp2_with (first
    | fail)
  have g1 : ¬ (w1.heap.size + 1 = w.heap.size) := by have := HS1.out; omega
  have g2 : ¬ (w.heap.size = w1.heap.size + 1) := by have := HS1.out; omega
  go_region
  all_goals (
    go_wp2
    (try simp only [Exit.inBlock, Exit.then])
    rw [set8_fold]
    first
      | (refine bodyPost_ret (results_cell2' rfl _ _ _ _ _ rfl ((HRX.out.set8 _ _ _ _ _ _ _ _).ev (Ev.drew _)) Tryz.underlying27 rfl Tryz.sizePlan) rfl ?_
         exact ⟨pmZero, rfl, pmZero_p, Qx.zero _ _ _, ((HEV.out).box (set8_but _ _ _ _ _ _ _ _ _ _) (Nat.le_refl _)).trans (Ev.drew _)⟩)
      | (refine bodyPost_ret (results_cell2' rfl _ _ _ _ _ rfl ((HRX.out.ev (Ev.drew _)).set8 _ _ _ _ _ _ _ _) Tryz.underlying27 rfl Tryz.sizePlan) rfl ?_
         exact ⟨pmZero, rfl, pmZero_p, Qx.zero _ _ _, (HEV.out.trans (Ev.drew _)).box (set8_but _ _ _ _ _ _ _ _ _ _) (Nat.le_refl _)⟩))
set_option maxRecDepth 100000 in
set_option maxHeartbeats 16000000 in
theorem pl_ReadLong (s : By) (w : World) (hT : Tab w) (hs : s.length ≤ 100000) (hc : (sxRead s).2.1 = 0) (he : (pErr (sxRead s).1).1 = 0) (hlong : 600 < (printS (pTree (pPlan (sxRead s).1))).length) : Calls Tryz.prog 8 #[.string ⟨s.toArray⟩] w (PReadOut (pRead s) w) := by
  have hP : pRead s = pFrom (sxRead s).1 := by
    unfold pRead
    rw [if_pos (by simpa using hc)]
  obtain ⟨hfine, hdeep, hsize⟩ := sx_reads s hc
  have hS := fun w1 => sx_read ⟨s.toArray⟩ w1 (by simpa [ByteArray.size] using hs)
  simp only at hS
  unfold ReadOut at hS
  rw [hc] at hS
  rw [hP]
  unfold PReadOut
  generalize (sxRead s).2.2 = ps at *
  generalize (sxRead s).1 = TT at *
  obtain ⟨hW, hPT⟩ := wr_read hfine hsize he
  have HW := Lib.hid hW
  have hR1 : pFrom TT = (pZero, 3, 0) := by
    unfold pFrom
    rw [if_pos (by simpa using he), if_pos hlong]
  rw [hR1]
  simp only
  have HLG := Lib.hid hlong
  have HO := Lib.hid ((orE_l (pErr TT)).1.2 he)
  clear hW hPT hR1 hlong
  have HS := Lib.hid hS
  have HF := Lib.hid hfine
  have HZ := Lib.hid hsize
  have HTab := Lib.hid hT
  obtain ⟨w0, hw0, hE0, hR, hs0⟩ := bx_one8 w
  have HR := Lib.hid hR
  have HE := Lib.hid hE0
  clear hP hS hR hE0 hs hc hfine hdeep hsize hT
  go_enter Tryz.func8, Tryz.ntmps8
  go_wp2_with (first
    | ((with_reducible refine (HS.out _).mono ?_); rintro r w1 ⟨t, rfl, ht, hl, hE1⟩; obtain ⟨w2, hw2, hE2, hT2, hRb2, hs2⟩ := bx_rd w1 (.int .i64 t.kind) (.string ⟨t.s.toArray⟩) (.int .i64 t.n) (.slice t.A t.kids.length t.cap) (.int .i64 (t.pos : Int)); have HE1 := Lib.hid hE1; have HE2 := Lib.hid hE2; have HT := Lib.hid ht; have HL := Lib.hid hl; have HRB := Lib.hid hRb2; have HS1 := Lib.hid hE1.size; obtain ⟨⟨d0, d1, d2, d3, d4⟩, _⟩ := hT2.five; clear ht hl hE1 hE2 hT2 hRb2))
  have hLL := (HL.out.less (K' := [w1.heap.size + 1]) fun k hk => by simp at hk; subst hk; exact .inr (.inr (by omega))).ev HE2.out
  have HPL := Lib.hid (rd_plan t.dep t (w1.heap.size + 1) (0, 0) w0.heap.size w2 (Nat.le_refl _) HRB.out hLL (by rw [HT.out]; exact (fine_fair _ HF.out).1) (by rw [HT.out]; have := HZ.out; omega))
  clear hLL
  refine (HPL.out).mono ?_
  rintro r w3 ⟨p, rfl, hpp, hpq, hRO⟩
  rw [HT.out] at hpp hRO
  obtain ⟨⟨ec, ep⟩, hPE⟩ : ∃ e, e = orE (0, 0) (pErr TT) := ⟨_, rfl⟩; rw [← hPE] at hRO HO; obtain rfl : ec = 0 := HO.out; clear HO hPE
  obtain ⟨w4, hw4, hE4, hB4⟩ := bx_any8 w3 (.int .i64 p.kind) (.string ⟨p.name.toArray⟩) (.slice p.ex.A p.ex.l.length p.ex.cap) (.slice p.co.A p.co.l.length p.co.cap) (.slice p.lf.A p.lf.l.length p.lf.cap) (.slice p.rt.A p.rt.l.length p.rt.cap) (.slice p.ag.A p.ag.l.length p.ag.cap) (.slice p.A p.kids.length p.cap)
  have HPP := Lib.hid hpp
  have HPQ := Lib.hid hpq
  have HRO := Lib.hid hRO
  have HE4 := Lib.hid hE4
  have HB4 := Lib.hid hB4
  have hev3 : Ev w w3 := But.to_ev (HE.out.trans (HE1.out.trans HE2.out)) hRO.but fun k hk => by simp at hk; subst hk; have := HS1.out; omega
  have HEV := Lib.hid (hev3.trans hE4)
  have HRX := Lib.hid (((HR.out.ev (HE1.out.trans HE2.out)).but hRO.but (by simp; have := HS1.out; omega)).ev hE4)
  obtain ⟨⟨q0, q1⟩, _⟩ := (hRO.bx.ev hE4).two
  (try simp only at q0 q1)
  obtain ⟨⟨p0, p1, p2, p3, p4, p5, p6, p7⟩, _⟩ := hB4.eight
  obtain ⟨⟨r0, r1, r2, r3, r4, r5, r6, r7⟩, s0, s1, s2, s3, s4, s5, s6, s7⟩ := HRX.out.eight
  clear hev3 hpp hpq hRO hE4 hB4 d0 d1 d2 d3 d4 HPL
  go_wp2_with (first
    | fail
    | (have HSH := Lib.hid (pl_show p w2.heap.size w4 (HTab.out.ev HEV.out) (HPQ.out.ev HE4.out) (by rw [HPP.out]; exact HW.out.fit) (by rw [HPP.out]; have := HW.out.size; omega) (by rw [HPP.out]; exact HW.out.len) (by rw [HPP.out]; exact HW.out.ne) (by rw [HPP.out]; exact HW.out.fits)); unfold pv Sle.v PM.kv at HSH; rw [HPP.out] at HSH; generalize printS (pTree (pPlan TT)) = PS at HSH HLG; have i9 : (600 : Int) < (PS.length : Int) := (by have := HLG.out; omega); (with_reducible refine (HSH.out).mono ?_); rintro r w5 ⟨rfl, hE5⟩; have HE5 := Lib.hid hE5; clear hE5 p0 p1 p2 p3 p4 p5 p6 p7 r0 r1 r2 r3 r4 r5 r6 r7 s0 s1 s2 s3 s4 s5 s6 s7 q0 q1; obtain ⟨⟨p0, p1, p2, p3, p4, p5, p6, p7⟩, _⟩ := (HB4.out.ev HE5.out).eight; obtain ⟨⟨r0, r1, r2, r3, r4, r5, r6, r7⟩, s0, s1, s2, s3, s4, s5, s6, s7⟩ := (HRX.out.ev HE5.out).eight; skip))
  (try simp only [Exit.inBlock, Exit.then])
  rw [set8_fold]
  refine bodyPost_ret (results_cell2' rfl _ _ _ _ _ rfl ((HRX.out.ev HE5.out).set8 _ _ _ _ _ _ _ _) Tryz.underlying27 rfl Tryz.sizePlan) rfl ?_
  exact ⟨pmZero, rfl, pmZero_p, Qx.zero _ _ _, (HEV.out.trans HE5.out).box (set8_but _ _ _ _ _ _ _ _ _ _) (Nat.le_refl _)⟩
set_option maxRecDepth 100000 in
set_option maxHeartbeats 16000000 in
theorem pl_ReadOk (s : By) (w : World) (hT : Tab w) (hs : s.length ≤ 100000) (hc : (sxRead s).2.1 = 0) (he : (pErr (sxRead s).1).1 = 0) (hlong : ¬ 600 < (printS (pTree (pPlan (sxRead s).1))).length) : Calls Tryz.prog 8 #[.string ⟨s.toArray⟩] w (PReadOut (pRead s) w) := by
  have hP : pRead s = pFrom (sxRead s).1 := by
    unfold pRead
    rw [if_pos (by simpa using hc)]
  obtain ⟨hfine, hdeep, hsize⟩ := sx_reads s hc
  have hS := fun w1 => sx_read ⟨s.toArray⟩ w1 (by simpa [ByteArray.size] using hs)
  simp only at hS
  unfold ReadOut at hS
  rw [hc] at hS
  rw [hP]
  unfold PReadOut
  generalize (sxRead s).2.2 = ps at *
  generalize (sxRead s).1 = TT at *
  obtain ⟨hW, hPT⟩ := wr_read hfine hsize he
  have HW := Lib.hid hW
  have hR1 : pFrom TT = (pPlan TT, 0, 0) := by
    unfold pFrom
    rw [if_pos (by simpa using he), if_neg hlong]
  rw [hR1]
  simp only
  have HLG := Lib.hid hlong
  have HO := Lib.hid ((orE_l (pErr TT)).1.2 he)
  clear hW hPT hR1 hlong
  have HS := Lib.hid hS
  have HF := Lib.hid hfine
  have HZ := Lib.hid hsize
  have HTab := Lib.hid hT
  obtain ⟨w0, hw0, hE0, hR, hs0⟩ := bx_one8 w
  have HR := Lib.hid hR
  have HE := Lib.hid hE0
  clear hP hS hR hE0 hs hc hfine hdeep hsize hT
  go_enter Tryz.func8, Tryz.ntmps8
  go_wp2_with (first
    | ((with_reducible refine (HS.out _).mono ?_); rintro r w1 ⟨t, rfl, ht, hl, hE1⟩; obtain ⟨w2, hw2, hE2, hT2, hRb2, hs2⟩ := bx_rd w1 (.int .i64 t.kind) (.string ⟨t.s.toArray⟩) (.int .i64 t.n) (.slice t.A t.kids.length t.cap) (.int .i64 (t.pos : Int)); have HE1 := Lib.hid hE1; have HE2 := Lib.hid hE2; have HT := Lib.hid ht; have HL := Lib.hid hl; have HRB := Lib.hid hRb2; have HS1 := Lib.hid hE1.size; obtain ⟨⟨d0, d1, d2, d3, d4⟩, _⟩ := hT2.five; clear ht hl hE1 hE2 hT2 hRb2))
  have hLL := (HL.out.less (K' := [w1.heap.size + 1]) fun k hk => by simp at hk; subst hk; exact .inr (.inr (by omega))).ev HE2.out
  have HPL := Lib.hid (rd_plan t.dep t (w1.heap.size + 1) (0, 0) w0.heap.size w2 (Nat.le_refl _) HRB.out hLL (by rw [HT.out]; exact (fine_fair _ HF.out).1) (by rw [HT.out]; have := HZ.out; omega))
  clear hLL
  refine (HPL.out).mono ?_
  rintro r w3 ⟨p, rfl, hpp, hpq, hRO⟩
  rw [HT.out] at hpp hRO
  obtain ⟨⟨ec, ep⟩, hPE⟩ : ∃ e, e = orE (0, 0) (pErr TT) := ⟨_, rfl⟩; rw [← hPE] at hRO HO; obtain rfl : ec = 0 := HO.out; clear HO hPE
  obtain ⟨w4, hw4, hE4, hB4⟩ := bx_any8 w3 (.int .i64 p.kind) (.string ⟨p.name.toArray⟩) (.slice p.ex.A p.ex.l.length p.ex.cap) (.slice p.co.A p.co.l.length p.co.cap) (.slice p.lf.A p.lf.l.length p.lf.cap) (.slice p.rt.A p.rt.l.length p.rt.cap) (.slice p.ag.A p.ag.l.length p.ag.cap) (.slice p.A p.kids.length p.cap)
  have HPP := Lib.hid hpp
  have HPQ := Lib.hid hpq
  have HRO := Lib.hid hRO
  have HE4 := Lib.hid hE4
  have HB4 := Lib.hid hB4
  have hev3 : Ev w w3 := But.to_ev (HE.out.trans (HE1.out.trans HE2.out)) hRO.but fun k hk => by simp at hk; subst hk; have := HS1.out; omega
  have HEV := Lib.hid (hev3.trans hE4)
  have HRX := Lib.hid (((HR.out.ev (HE1.out.trans HE2.out)).but hRO.but (by simp; have := HS1.out; omega)).ev hE4)
  obtain ⟨⟨q0, q1⟩, _⟩ := (hRO.bx.ev hE4).two
  (try simp only at q0 q1)
  obtain ⟨⟨p0, p1, p2, p3, p4, p5, p6, p7⟩, _⟩ := hB4.eight
  obtain ⟨⟨r0, r1, r2, r3, r4, r5, r6, r7⟩, s0, s1, s2, s3, s4, s5, s6, s7⟩ := HRX.out.eight
  clear hev3 hpp hpq hRO hE4 hB4 d0 d1 d2 d3 d4 HPL
  go_wp2_with (first
    | fail
    | (have HSH := Lib.hid (pl_show p w2.heap.size w4 (HTab.out.ev HEV.out) (HPQ.out.ev HE4.out) (by rw [HPP.out]; exact HW.out.fit) (by rw [HPP.out]; have := HW.out.size; omega) (by rw [HPP.out]; exact HW.out.len) (by rw [HPP.out]; exact HW.out.ne) (by rw [HPP.out]; exact HW.out.fits)); unfold pv Sle.v PM.kv at HSH; rw [HPP.out] at HSH; generalize printS (pTree (pPlan TT)) = PS at HSH HLG; have i9 : ¬ ((600 : Int) < (PS.length : Int)) := (by have := HLG.out; omega); (with_reducible refine (HSH.out).mono ?_); rintro r w5 ⟨rfl, hE5⟩; have HE5 := Lib.hid hE5; clear hE5 p0 p1 p2 p3 p4 p5 p6 p7 r0 r1 r2 r3 r4 r5 r6 r7 s0 s1 s2 s3 s4 s5 s6 s7 q0 q1; obtain ⟨⟨p0, p1, p2, p3, p4, p5, p6, p7⟩, _⟩ := (HB4.out.ev HE5.out).eight; obtain ⟨⟨r0, r1, r2, r3, r4, r5, r6, r7⟩, s0, s1, s2, s3, s4, s5, s6, s7⟩ := (HRX.out.ev HE5.out).eight; skip))
  (try simp only [Exit.inBlock, Exit.then])
  rw [set8_fold]
  refine bodyPost_ret (results_cell2' rfl _ _ _ _ _ rfl ((HRX.out.ev HE5.out).set8 _ _ _ _ _ _ _ _) Tryz.underlying27 rfl Tryz.sizePlan) rfl ?_
  have hlt : w.heap.size < w2.heap.size := by have := HS1.out; omega
  exact ⟨p, rfl, HPP.out, ((((HPQ.out.ev HE4.out).ev HE5.out).less (K' := [w.heap.size]) fun k hk => by simp at hk; subst hk; exact .inr (.inl hlt)).move (set8_but _ _ _ _ _ _ _ _ _ _) fun k hk => by cases hk).low (Nat.le_of_lt hlt), (HEV.out.trans HE5.out).box (set8_but _ _ _ _ _ _ _ _ _ _) (Nat.le_refl _)⟩
end Go.Proofs.YtojbahjebfcmgaaGreatDoor

namespace Go.Proofs.YtojbahjebfcmgaaGreatDoor
open Go.RowKit
set_option linter.unusedVariables false

theorem pl_Read (s : By) (w : World) (hT : Tab w) (hs : s.length ≤ 100000) : Calls Tryz.prog 8 #[.string ⟨s.toArray⟩] w (PReadOut (pRead s) w) := by
  by_cases hc : (sxRead s).2.1 = 0
  · by_cases he : (pErr (sxRead s).1).1 = 0
    · by_cases hl : 600 < (printS (pTree (pPlan (sxRead s).1))).length
      · exact pl_ReadLong s w hT hs hc he hl
      · exact pl_ReadOk s w hT hs hc he hl
    · exact pl_ReadErr s w hT hs hc he
  · exact pl_ReadBad s w hs hc
end Go.Proofs.YtojbahjebfcmgaaGreatDoor

namespace Go.Proofs.YtojbahjebfcmgaaGreatDoor
open Go.RowKit
set_option linter.unusedVariables false

set_option maxRecDepth 100000 in
set_option maxHeartbeats 4000000 in
theorem eq_texts (l : List By) (A A' : Option Addr) (n cap cap' : Nat) (w : World) (h : Ss w A n cap l) (h' : Ss w A' n cap' l) (hn : n ≤ 100000) :
    Calls Tryz.prog 65 #[.slice A n cap, .slice A' n cap'] w fun e w' => e = .returned (.bool true) ∧ Ev w w' := by
  have H := Lib.hid h
  have H' := Lib.hid h'
  have HE0 := Lib.hid (Ev.refl w)
  clear h h'
  go_enter Tryz.func65, Tryz.ntmps65
  go_wp2
  go_loopw [13] (fun iv wr => ∃ k : Nat, iv = .int .i64 (k : Int) ∧ k ≤ n ∧ Hid (Ev w wr)) (fun iv _ => n - (intOf iv).toNat)
  case atStart => exact ⟨0, rfl, Nat.zero_le _, HE0⟩
  case round =>
    obtain ⟨k, rfl, hk, HE⟩ := hrel
    by_cases hlt : k < n
    · obtain ⟨x, hx⟩ := H.out.at hlt
      obtain ⟨b, off, rfl, hb, hc⟩ := (H.out.ev HE.out).rd (by omega)
      obtain ⟨b', off', rfl, hb', hc'⟩ := (H'.out.ev HE.out).rd (by omega)
      have c0 := hc k x hx 0 _ rfl
      have d0 := hc' k x hx 0 _ rfl
      simp only [Nat.mul_one, Nat.add_zero] at c0 d0
      have i1 : (0 : Int) ≤ (k : Int) := by omega
      have i2 : (k : Int) < (n : Int) := by omega
      clear hx hc hc'
      go_upto_region 6 with fail
      go_region
      all_goals (
        go_wp2
        go_roundw
        case rel => exact ⟨k + 1, by go_num, by omega, Lib.hid (HE.out.trans (Ev.drew _))⟩
        case measure => simp [intOf]; omega)
    · obtain rfl : k = n := by omega
      go_wp2
      go_ret
      exact ⟨rfl, HE.out⟩
end Go.Proofs.YtojbahjebfcmgaaGreatDoor

namespace Go.Proofs.YtojbahjebfcmgaaGreatDoor
open Go.RowKit
set_option linter.unusedVariables false

set_option maxRecDepth 100000 in
set_option maxHeartbeats 4000000 in
theorem eq_aggs (l : List Ag) (A A' : Option Addr) (n cap cap' : Nat) (w : World) (h : Sl 3 ac w A n cap l) (h' : Sl 3 ac w A' n cap' l) (hn : n ≤ 100000) :
    Calls Tryz.prog 66 #[.slice A n cap, .slice A' n cap'] w fun e w' => e = .returned (.bool true) ∧ Ev w w' := by
  have H := Lib.hid h
  have H' := Lib.hid h'
  have HE0 := Lib.hid (Ev.refl w)
  clear h h'
  go_enter Tryz.func66, Tryz.ntmps66
  go_wp2
  go_loopw [13] (fun iv wr => ∃ k : Nat, iv = .int .i64 (k : Int) ∧ k ≤ n ∧ Hid (Ev w wr)) (fun iv _ => n - (intOf iv).toNat)
  case atStart => exact ⟨0, rfl, Nat.zero_le _, HE0⟩
  case round =>
    obtain ⟨k, rfl, hk, HE⟩ := hrel
    by_cases hlt : k < n
    · obtain ⟨x, hx⟩ := H.out.at hlt
      obtain ⟨b, off, rfl, hb, hc⟩ := (H.out.ev HE.out).rd (by omega)
      obtain ⟨b', off', rfl, hb', hc'⟩ := (H'.out.ev HE.out).rd (by omega)
      have c0 := hc k x hx 0 _ rfl
      have d0 := hc' k x hx 0 _ rfl
      have c1 := hc k x hx 1 _ rfl
      have d1 := hc' k x hx 1 _ rfl
      have c2 := hc k x hx 2 _ rfl
      have d2 := hc' k x hx 2 _ rfl
      simp only [Nat.add_zero] at c0 d0
      have i1 : (0 : Int) ≤ (k : Int) := by omega
      have i2 : (k : Int) < (n : Int) := by omega
      clear hx hc hc'
      go_upto_region 6 with fail
      go_region
      all_goals (
        go_wp2
        go_roundw
        case rel => exact ⟨k + 1, by go_num, by omega, Lib.hid (HE.out.trans (Ev.drew _))⟩
        case measure => simp [intOf]; omega)
    · obtain rfl : k = n := by omega
      go_wp2
      go_ret
      exact ⟨rfl, HE.out⟩
end Go.Proofs.YtojbahjebfcmgaaGreatDoor

namespace Go.Proofs.YtojbahjebfcmgaaGreatDoor
open Go.RowKit
set_option linter.unusedVariables false

def Yes (w : World) (e : Ending) (w' : World) : Prop := e = .returned (.bool true) ∧ Ev w w'

set_option maxRecDepth 100000 in
set_option maxHeartbeats 4000000 in
theorem eqf_exprs (X X' : List M) (A A' : Option Addr) (n cap cap' : Nat) (w : World) (h : Es w A n cap X) (h' : Es w A' n cap' X') (hn : n ≤ 100000) (hf : ∀ (i : Nat) (x x' : M), X[i]? = some x → X'[i]? = some x' → ∀ w1, Ev w w1 → Calls Tryz.prog 64 #[ev_ x, ev_ x'] w1 (Yes w1)) :
    Calls Tryz.prog 63 #[.slice A n cap, .slice A' n cap', .func (.func 64) #[] #[]] w (Yes w) := by
  have hc1 := h.le
  have hc2 := h.max
  have hc3 := h'.le
  have hc4 := h'.max
  have H := Lib.hid h
  have H' := Lib.hid h'
  have HF := Lib.hid hf
  have HE0 := Lib.hid (Ev.refl w)
  unfold Yes
  clear h h' hf
  go_enter Tryz.func63, Tryz.ntmps63
  go_wp2
  go_loopw [17] (fun iv wr => ∃ k : Nat, iv = .int .i64 (k : Int) ∧ k ≤ n ∧ Hid (Ev w wr)) (fun iv _ => n - (intOf iv).toNat)
  case atStart => exact ⟨0, rfl, Nat.zero_le _, by first | exact HE0 | exact Lib.hid (Ev.alloc _ _) | exact Lib.hid ((Ev.alloc _ _).trans (Ev.alloc _ _))⟩
  case round =>
    obtain ⟨k, rfl, hk, HE⟩ := hrel
    by_cases hlt : k < n
    · obtain ⟨x, hx⟩ := H.out.at hlt
      obtain ⟨x', hx'⟩ := H'.out.at hlt
      obtain ⟨b, off, rfl, hb, c0, c1, c2, c3⟩ := Es.cell (H.out.ev HE.out) hx
      obtain ⟨b', off', rfl, hb', d0, d1, d2, d3⟩ := Es.cell (H'.out.ev HE.out) hx'
      have HC := Lib.hid (fun w1 (hE : Ev w w1) => HF.out k x x' hx hx' w1 hE)
      unfold M.kv at c3 d3
      unfold ev_ M.kv Yes at HC
      obtain ⟨w4, hw4, hE4, hB4⟩ : ∃ w4, wr.alloc (.cells #[.int .i64 x.kind, .string ⟨x.s.toArray⟩, .int .i64 x.n, .slice x.A x.kids.length x.cap] 57) = w4 ∧ Ev wr w4 ∧ Bx 57 wr.heap.size #[.int .i64 x.kind, .string ⟨x.s.toArray⟩, .int .i64 x.n, .slice x.A x.kids.length x.cap] w4 := ⟨_, rfl, Ev.alloc _ _, Bx.new _ _ _⟩
      have e0 := (hE4.cell (p := ⟨b', off' + k * 4, none⟩) hb').trans d0
      have e1 := (hE4.cell (p := ⟨b', off' + k * 4 + 1, none⟩) hb').trans d1
      have e2 := (hE4.cell (p := ⟨b', off' + k * 4 + 2, none⟩) hb').trans d2
      have e3 := (hE4.cell (p := ⟨b', off' + k * 4 + 3, none⟩) hb').trans d3
      obtain ⟨w5, hw5, hE5, hB5⟩ : ∃ w5, w4.alloc (.cells #[.int .i64 x'.kind, .string ⟨x'.s.toArray⟩, .int .i64 x'.n, .slice x'.A x'.kids.length x'.cap] 57) = w5 ∧ Ev w4 w5 ∧ Bx 57 w4.heap.size #[.int .i64 x'.kind, .string ⟨x'.s.toArray⟩, .int .i64 x'.n, .slice x'.A x'.kids.length x'.cap] w5 := ⟨_, rfl, Ev.alloc _ _, Bx.new _ _ _⟩
      obtain ⟨⟨f0, f1, f2, f3⟩, _⟩ := (hB4.ev hE5).four
      obtain ⟨⟨g0, g1, g2, g3⟩, _⟩ := hB5.four
      have HE5 := Lib.hid ((HE.out.trans hE4).trans hE5)
      have i1 : (0 : Int) ≤ (k : Int) := by omega
      have i2 : (k : Int) < (n : Int) := by omega
      clear hx hx' d0 d1 d2 d3 hE4 hB4 hE5 hB5
      go_wp2_with (first
        | ((with_reducible refine (HC.out _ HE5.out).mono ?_); rintro e w6 ⟨rfl, hE6⟩))
      go_roundw
      case rel => exact ⟨k + 1, by go_num, by omega, Lib.hid (HE5.out.trans hE6)⟩
      case measure => simp [intOf]; omega
    · obtain rfl : k = n := by omega
      go_wp2
      go_ret
      exact ⟨rfl, HE.out⟩
end Go.Proofs.YtojbahjebfcmgaaGreatDoor

namespace Go.Proofs.YtojbahjebfcmgaaGreatDoor
open Go.RowKit
set_option linter.unusedVariables false

theorem bx_44 (w : World) (c0 c1 c2 c3 d0 d1 d2 d3 : Value) : ∃ w0, (w.alloc (.cells #[c0, c1, c2, c3] 57)).alloc (.cells #[d0, d1, d2, d3] 57) = w0 ∧ Ev w w0 ∧ Bx 57 w.heap.size #[c0, c1, c2, c3] w0 ∧ Bx 57 (w.heap.size + 1) #[d0, d1, d2, d3] w0 := by
  have hB := Bx.new 57 #[d0, d1, d2, d3] (w.alloc (.cells #[c0, c1, c2, c3] 57))
  rw [show (w.alloc (.cells #[c0, c1, c2, c3] 57)).heap.size = w.heap.size + 1 by simp] at hB
  exact ⟨_, rfl, (Ev.alloc w _).trans (Ev.alloc _ _), (Bx.new 57 #[c0, c1, c2, c3] w).ev (Ev.alloc _ _), hB⟩

set_option maxRecDepth 100000 in
set_option maxHeartbeats 4000000 in
theorem same_expr (N : Nat) : ∀ (m m' : M) (b0 b0' : Nat) (w : World), m.dep ≤ N → Lx b0 [] w m → Lx b0' [] w m' → m.t = m'.t → m.t.size ≤ 100000 →
    Calls Tryz.prog 64 #[ev_ m, ev_ m'] w (Yes w) := by
  induction N with
  | zero =>
    intro m m' b0 b0' w hd
    rw [M.dep_eq] at hd
    omega
  | succ N ih =>
    intro m m' b0 b0' w hd hL hL' ht hsz
    have hz := T.size_eq m.t
    have hzl := sum_len m.t.kids
    rw [M.t_kids, List.length_map] at hzl
    rw [M.t_kids] at hz
    have ht2 := ht
    rw [M.t_eq, M.t_eq m'] at ht2
    injection ht2 with e1 e2 e3 e4 e5
    have hlen : m'.kids.length = m.kids.length := by
      have := congrArg List.length e4
      simpa using this.symm
    have hEF := fun w1 (hE : Ev w w1) => eqf_exprs m.kids m'.kids m.A m'.A m.kids.length m.cap m'.cap w1 (hL.es.ev hE) (by have := hL'.es.ev hE; rwa [hlen] at this) (by omega) fun i x x' hx hx' w2 hE2 => by
      have hxm := List.mem_of_getElem? hx
      have hxm' := List.mem_of_getElem? hx'
      refine ih x x' b0 b0' w2 (by have := M.kid_dep hxm; omega) ((hL.kid x hxm).ev (hE.trans hE2)) ((hL'.kid x' hxm').ev (hE.trans hE2)) ?_ ?_
      · have h1 : (m.kids.map M.t)[i]? = some x.t := by rw [List.getElem?_map, hx]; rfl
        have h2 : (m'.kids.map M.t)[i]? = some x'.t := by rw [List.getElem?_map, hx']; rfl
        rw [e4, h2] at h1
        exact (Option.some.inj h1).symm
      · have := mem_le_sum (List.mem_map_of_mem (f := T.size) (List.mem_map_of_mem (f := M.t) hxm))
        omega
    unfold Yes at hEF ⊢
    unfold ev_ M.kv
    rw [← e1, ← e2, ← e3, hlen]
    have HEF := Lib.hid hEF
    obtain ⟨w0, hw0, hE0, hX, hB⟩ := bx_44 w (.int .i64 m.kind) (.string ⟨m.s.toArray⟩) (.int .i64 m.n) (.slice m.A m.kids.length m.cap) (.int .i64 m.kind) (.string ⟨m.s.toArray⟩) (.int .i64 m.n) (.slice m'.A m.kids.length m'.cap)
    obtain ⟨⟨c0, c1, c2, c3⟩, _⟩ := hX.four
    obtain ⟨⟨d0, d1, d2, d3⟩, _⟩ := hB.four
    have HE := Lib.hid hE0
    clear hEF hX hB hE0 ih hd hL hL' ht hsz hz hzl e1 e2 e3 e4 e5 hlen
    go_enter Tryz.func64, Tryz.ntmps64
    go_wp2_with (first
      | ((with_reducible refine (HEF.out _ HE.out).mono ?_); rintro e w6 ⟨rfl, hE6⟩))
    go_ret
    exact ⟨rfl, HE.out.trans hE6⟩
end Go.Proofs.YtojbahjebfcmgaaGreatDoor

namespace Go.Proofs.YtojbahjebfcmgaaGreatDoor
open Go.RowKit
set_option linter.unusedVariables false

set_option maxRecDepth 100000 in
set_option maxHeartbeats 8000000 in
theorem eqf_plans (X X' : List PM) (A A' : Option Addr) (n cap cap' : Nat) (w : World) (h : Ps w A n cap X) (h' : Ps w A' n cap' X') (hn : n ≤ 100000) (hf : ∀ (i : Nat) (x x' : PM), X[i]? = some x → X'[i]? = some x' → ∀ w1, Ev w w1 → Calls Tryz.prog 31 #[pv x, pv x'] w1 (Yes w1)) :
    Calls Tryz.prog 67 #[.slice A n cap, .slice A' n cap', .func (.func 31) #[] #[]] w (Yes w) := by
  have hc1 := h.le
  have hc2 := h.max
  have hc3 := h'.le
  have hc4 := h'.max
  have H := Lib.hid h
  have H' := Lib.hid h'
  have HF := Lib.hid hf
  have HE0 := Lib.hid (Ev.refl w)
  unfold Yes
  clear h h' hf
  go_enter Tryz.func67, Tryz.ntmps67
  go_wp2
  go_loopw [17] (fun iv wr => ∃ k : Nat, iv = .int .i64 (k : Int) ∧ k ≤ n ∧ Hid (Ev w wr)) (fun iv _ => n - (intOf iv).toNat)
  case atStart => exact ⟨0, rfl, Nat.zero_le _, HE0⟩
  case round =>
    obtain ⟨k, rfl, hk, HE⟩ := hrel
    by_cases hlt : k < n
    · obtain ⟨x, hx⟩ := H.out.at hlt
      obtain ⟨x', hx'⟩ := H'.out.at hlt
      obtain ⟨b, off, rfl, hb, _⟩ := (H.out.ev HE.out).rd (by omega)
      obtain ⟨b', off', rfl, hb', _⟩ := (H'.out.ev HE.out).rd (by omega)
      obtain ⟨c0, c1, c2, c3, c4, c5, c6, c7⟩ := Ps.cell (H.out.ev HE.out) hx
      obtain ⟨d0, d1, d2, d3, d4, d5, d6, d7⟩ := Ps.cell (H'.out.ev HE.out) hx'
      have HC := Lib.hid (fun w1 (hE : Ev w w1) => HF.out k x x' hx hx' w1 hE)
      unfold pv Yes at HC
      unfold Sle.v PM.kv at *
      obtain ⟨w4, hw4, hE4, hB4⟩ : ∃ w4, wr.alloc (.cells #[.int .i64 x.kind, .string ⟨x.name.toArray⟩, .slice x.ex.A x.ex.l.length x.ex.cap, .slice x.co.A x.co.l.length x.co.cap, .slice x.lf.A x.lf.l.length x.lf.cap, .slice x.rt.A x.rt.l.length x.rt.cap, .slice x.ag.A x.ag.l.length x.ag.cap, .slice x.A x.kids.length x.cap] 27) = w4 ∧ Ev wr w4 ∧ Bx 27 wr.heap.size #[.int .i64 x.kind, .string ⟨x.name.toArray⟩, .slice x.ex.A x.ex.l.length x.ex.cap, .slice x.co.A x.co.l.length x.co.cap, .slice x.lf.A x.lf.l.length x.lf.cap, .slice x.rt.A x.rt.l.length x.rt.cap, .slice x.ag.A x.ag.l.length x.ag.cap, .slice x.A x.kids.length x.cap] w4 := ⟨_, rfl, Ev.alloc _ _, Bx.new _ _ _⟩
      have e0 := (hE4.cell (p := ⟨b', off' + k * 8, none⟩) hb').trans d0
      have e1 := (hE4.cell (p := ⟨b', off' + k * 8 + 1, none⟩) hb').trans d1
      have e2 := (hE4.cell (p := ⟨b', off' + k * 8 + 2, none⟩) hb').trans d2
      have e3 := (hE4.cell (p := ⟨b', off' + k * 8 + 3, none⟩) hb').trans d3
      have e4 := (hE4.cell (p := ⟨b', off' + k * 8 + 4, none⟩) hb').trans d4
      have e5 := (hE4.cell (p := ⟨b', off' + k * 8 + 5, none⟩) hb').trans d5
      have e6 := (hE4.cell (p := ⟨b', off' + k * 8 + 6, none⟩) hb').trans d6
      have e7 := (hE4.cell (p := ⟨b', off' + k * 8 + 7, none⟩) hb').trans d7
      obtain ⟨w5, hw5, hE5, hB5⟩ : ∃ w5, w4.alloc (.cells #[.int .i64 x'.kind, .string ⟨x'.name.toArray⟩, .slice x'.ex.A x'.ex.l.length x'.ex.cap, .slice x'.co.A x'.co.l.length x'.co.cap, .slice x'.lf.A x'.lf.l.length x'.lf.cap, .slice x'.rt.A x'.rt.l.length x'.rt.cap, .slice x'.ag.A x'.ag.l.length x'.ag.cap, .slice x'.A x'.kids.length x'.cap] 27) = w5 ∧ Ev w4 w5 ∧ Bx 27 w4.heap.size #[.int .i64 x'.kind, .string ⟨x'.name.toArray⟩, .slice x'.ex.A x'.ex.l.length x'.ex.cap, .slice x'.co.A x'.co.l.length x'.co.cap, .slice x'.lf.A x'.lf.l.length x'.lf.cap, .slice x'.rt.A x'.rt.l.length x'.rt.cap, .slice x'.ag.A x'.ag.l.length x'.ag.cap, .slice x'.A x'.kids.length x'.cap] w5 := ⟨_, rfl, Ev.alloc _ _, Bx.new _ _ _⟩
      obtain ⟨⟨f0, f1, f2, f3, f4, f5, f6, f7⟩, _⟩ := (hB4.ev hE5).eight
      obtain ⟨⟨g0, g1, g2, g3, g4, g5, g6, g7⟩, _⟩ := hB5.eight
      have HE5 := Lib.hid ((HE.out.trans hE4).trans hE5)
      have i1 : (0 : Int) ≤ (k : Int) := by omega
      have i2 : (k : Int) < (n : Int) := by omega
      clear hx hx' d0 d1 d2 d3 d4 d5 d6 d7 hE4 hB4 hE5 hB5
      go_wp2_with (first
        | ((with_reducible refine (HC.out _ HE5.out).mono ?_); rintro e w6 ⟨rfl, hE6⟩))
      go_roundw
      case rel => exact ⟨k + 1, by go_num, by omega, Lib.hid (HE5.out.trans hE6)⟩
      case measure => simp [intOf]; omega
    · obtain rfl : k = n := by omega
      go_wp2
      go_ret
      exact ⟨rfl, HE.out⟩
end Go.Proofs.YtojbahjebfcmgaaGreatDoor

namespace Go.Proofs.YtojbahjebfcmgaaGreatDoor
open Go.RowKit
set_option linter.unusedVariables false

theorem bx_88 (w : World) (c0 c1 c2 c3 c4 c5 c6 c7 d0 d1 d2 d3 d4 d5 d6 d7 : Value) : ∃ w0, (w.alloc (.cells #[c0, c1, c2, c3, c4, c5, c6, c7] 27)).alloc (.cells #[d0, d1, d2, d3, d4, d5, d6, d7] 27) = w0 ∧ Ev w w0 ∧ Bx 27 w.heap.size #[c0, c1, c2, c3, c4, c5, c6, c7] w0 ∧ Bx 27 (w.heap.size + 1) #[d0, d1, d2, d3, d4, d5, d6, d7] w0 := by
  have hB := Bx.new 27 #[d0, d1, d2, d3, d4, d5, d6, d7] (w.alloc (.cells #[c0, c1, c2, c3, c4, c5, c6, c7] 27))
  rw [show (w.alloc (.cells #[c0, c1, c2, c3, c4, c5, c6, c7] 27)).heap.size = w.heap.size + 1 by simp] at hB
  exact ⟨_, rfl, (Ev.alloc w _).trans (Ev.alloc _ _), (Bx.new 27 #[c0, c1, c2, c3, c4, c5, c6, c7] w).ev (Ev.alloc _ _), hB⟩
theorem good_cols {k : Int} {nm : By} {es : List T} {cs lf rt : List By} {ag : List Ag} {nk : Nat} (h : goodHead k nm es cs lf rt ag nk) (hes : es.length ≤ 10000) : cs.length ≤ 10000 := by
  rcases h with ⟨_, _, _, rfl, _⟩ | ⟨_, _, _, rfl, _⟩ | ⟨_, _, _, h, _⟩ | ⟨_, _, _, rfl, _⟩ | ⟨_, _, _, rfl, _⟩ | ⟨_, _, _, rfl, _⟩ | ⟨_, _, _, rfl, _⟩ <;> first | omega | simp

set_option maxRecDepth 100000 in
set_option maxHeartbeats 16000000 in
theorem same_plan (N : Nat) : ∀ (m m' : PM) (b0 b0' : Nat) (w : World), m.dep ≤ N → Qx b0 [] w m → Qx b0' [] w m' → m.p = m'.p → m.p.good → m.p.fit →
    Calls Tryz.prog 31 #[pv m, pv m'] w (Yes w) := by
  induction N with
  | zero =>
    intro m m' b0 b0' w hd
    rw [PM.dep_eq] at hd
    omega
  | succ N ih =>
    intro m m' b0 b0' w hd hL hL' ht hg hf
    obtain ⟨⟨_, hfe, _, hel, hll, hrl, hal, hkn⟩, hkf⟩ := fit_m hf
    rw [List.length_map] at hel
    have hg2 := hg
    rw [PM.p_eq, Pl.good, Pl.goods_all] at hg2
    have hcl := good_cols hg2.1 (by rw [List.length_map]; exact hel)
    have hkg : ∀ x ∈ m.kids, x.p.good := fun x hx => hg2.2 x.p (List.mem_map_of_mem hx)
    have ht2 := ht
    rw [PM.p_eq m, PM.p_eq m'] at ht2
    injection ht2 with e1 e2 e3 e4 e5 e6 e7 e8
    have hlex : m'.ex.l.length = m.ex.l.length := by have := congrArg List.length e3; simpa using this.symm
    have hlk : m'.kids.length = m.kids.length := by have := congrArg List.length e8; simpa using this.symm
    obtain ⟨hex, hlx, hco, hlf, hrt, hag, hks, hkq⟩ := hL.at
    obtain ⟨hex', hlx', hco', hlf', hrt', hag', hks', hkq'⟩ := hL'.at
    have hEX := fun w1 (hE : Ev w w1) => eqf_exprs m.ex.l m'.ex.l m.ex.A m'.ex.A m.ex.l.length m.ex.cap m'.ex.cap w1 (hex.sl.ev hE) (by have := hex'.sl.ev hE; rwa [hlex] at this) (by omega) fun i x x' hx hx' w2 hE2 => by
      have hxm := List.mem_of_getElem? hx
      refine same_expr x.dep x x' b0 b0' w2 (Nat.le_refl _) ((hlx x hxm).ev (hE.trans hE2)) ((hlx' x' (List.mem_of_getElem? hx')).ev (hE.trans hE2)) ?_ (by have := (hfe x.t (List.mem_map_of_mem hxm)).2.1; omega)
      have h1 : (m.ex.l.map M.t)[i]? = some x.t := by rw [List.getElem?_map, hx]; rfl
      have h2 : (m'.ex.l.map M.t)[i]? = some x'.t := by rw [List.getElem?_map, hx']; rfl
      rw [e3, h2] at h1
      exact (Option.some.inj h1).symm
    have hCO := fun w1 (hE : Ev w w1) => eq_texts m.co.l m.co.A m'.co.A m.co.l.length m.co.cap m'.co.cap w1 (hco.sl.ev hE) (by have := hco'.sl.ev hE; rwa [← e4] at this) (by omega)
    have hLF := fun w1 (hE : Ev w w1) => eq_texts m.lf.l m.lf.A m'.lf.A m.lf.l.length m.lf.cap m'.lf.cap w1 (hlf.sl.ev hE) (by have := hlf'.sl.ev hE; rwa [← e5] at this) (by omega)
    have hRT := fun w1 (hE : Ev w w1) => eq_texts m.rt.l m.rt.A m'.rt.A m.rt.l.length m.rt.cap m'.rt.cap w1 (hrt.sl.ev hE) (by have := hrt'.sl.ev hE; rwa [← e6] at this) (by omega)
    have hAG := fun w1 (hE : Ev w w1) => eq_aggs m.ag.l m.ag.A m'.ag.A m.ag.l.length m.ag.cap m'.ag.cap w1 (hag.sl.ev hE) (by have := hag'.sl.ev hE; rwa [← e7] at this) (by omega)
    have hKD := fun w1 (hE : Ev w w1) => eqf_plans m.kids m'.kids m.A m'.A m.kids.length m.cap m'.cap w1 (hL.ps.ev hE) (by have := hL'.ps.ev hE; rwa [hlk] at this) (by omega) fun i x x' hx hx' w2 hE2 => by
      have hxm := List.mem_of_getElem? hx
      refine ih x x' b0 b0' w2 (by have := PM.kid_dep hxm; omega) ((hkq x hxm).ev (hE.trans hE2)) ((hkq' x' (List.mem_of_getElem? hx')).ev (hE.trans hE2)) ?_ (hkg x hxm) (hkf x hxm)
      have h1 : (m.kids.map PM.p)[i]? = some x.p := by rw [List.getElem?_map, hx]; rfl
      have h2 : (m'.kids.map PM.p)[i]? = some x'.p := by rw [List.getElem?_map, hx']; rfl
      rw [e8, h2] at h1
      exact (Option.some.inj h1).symm
    unfold Yes at hEX hKD ⊢
    unfold pv Sle.v PM.kv
    rw [← e1, ← e2, hlex, hlk, ← e4, ← e5, ← e6, ← e7]
    have HEX := Lib.hid hEX
    have HCO := Lib.hid hCO
    have HLF := Lib.hid hLF
    have HRT := Lib.hid hRT
    have HAG := Lib.hid hAG
    have HKD := Lib.hid hKD
    obtain ⟨w0, hw0, hE0, hX, hB⟩ := bx_88 w (.int .i64 m.kind) (.string ⟨m.name.toArray⟩) (.slice m.ex.A m.ex.l.length m.ex.cap) (.slice m.co.A m.co.l.length m.co.cap) (.slice m.lf.A m.lf.l.length m.lf.cap) (.slice m.rt.A m.rt.l.length m.rt.cap) (.slice m.ag.A m.ag.l.length m.ag.cap) (.slice m.A m.kids.length m.cap) (.int .i64 m.kind) (.string ⟨m.name.toArray⟩) (.slice m'.ex.A m.ex.l.length m'.ex.cap) (.slice m'.co.A m.co.l.length m'.co.cap) (.slice m'.lf.A m.lf.l.length m'.lf.cap) (.slice m'.rt.A m.rt.l.length m'.rt.cap) (.slice m'.ag.A m.ag.l.length m'.ag.cap) (.slice m'.A m.kids.length m'.cap)
    obtain ⟨⟨p0, p1, p2, p3, p4, p5, p6, p7⟩, _⟩ := hX.eight
    obtain ⟨⟨q0, q1, q2, q3, q4, q5, q6, q7⟩, _⟩ := hB.eight
    have HE := Lib.hid hE0
    have HX := Lib.hid hX
    have HB := Lib.hid hB
    clear hEX hCO hLF hRT hAG hKD hX hB hE0 ih hd hL hL' ht hg hf hfe hel hll hrl hal hkn hkf hg2 hcl hkg e1 e2 e3 e4 e5 e6 e7 e8 hlex hlk hex hlx hco hlf hrt hag hks hkq hex' hlx' hco' hlf' hrt' hag' hks' hkq'
    go_enter Tryz.func31, Tryz.ntmps31
    go_wp2_with (first
      | ((with_reducible refine (HEX.out _ HE.out).mono ?_); rintro e w1 ⟨rfl, hE1⟩; have F1 := Lib.hid hE1; have E1 := Lib.hid (HE.out.trans F1.out); clear hE1; clear p0 p1 p2 p3 p4 p5 p6 p7 q0 q1 q2 q3 q4 q5 q6 q7; obtain ⟨⟨p0, p1, p2, p3, p4, p5, p6, p7⟩, _⟩ := (HX.out.ev F1.out).eight; obtain ⟨⟨q0, q1, q2, q3, q4, q5, q6, q7⟩, _⟩ := (HB.out.ev F1.out).eight)
      | ((with_reducible refine (HCO.out _ E1.out).mono ?_); rintro e w2 ⟨rfl, hE2⟩; have F2 := Lib.hid (F1.out.trans hE2); have E2 := Lib.hid (HE.out.trans F2.out); clear hE2; clear p0 p1 p2 p3 p4 p5 p6 p7 q0 q1 q2 q3 q4 q5 q6 q7; obtain ⟨⟨p0, p1, p2, p3, p4, p5, p6, p7⟩, _⟩ := (HX.out.ev F2.out).eight; obtain ⟨⟨q0, q1, q2, q3, q4, q5, q6, q7⟩, _⟩ := (HB.out.ev F2.out).eight)
      | ((with_reducible refine (HLF.out _ E2.out).mono ?_); rintro e w3 ⟨rfl, hE3⟩; have F3 := Lib.hid (F2.out.trans hE3); have E3 := Lib.hid (HE.out.trans F3.out); clear hE3; clear p0 p1 p2 p3 p4 p5 p6 p7 q0 q1 q2 q3 q4 q5 q6 q7; obtain ⟨⟨p0, p1, p2, p3, p4, p5, p6, p7⟩, _⟩ := (HX.out.ev F3.out).eight; obtain ⟨⟨q0, q1, q2, q3, q4, q5, q6, q7⟩, _⟩ := (HB.out.ev F3.out).eight)
      | ((with_reducible refine (HRT.out _ E3.out).mono ?_); rintro e w4 ⟨rfl, hE4⟩; have F4 := Lib.hid (F3.out.trans hE4); have E4 := Lib.hid (HE.out.trans F4.out); clear hE4; clear p0 p1 p2 p3 p4 p5 p6 p7 q0 q1 q2 q3 q4 q5 q6 q7; obtain ⟨⟨p0, p1, p2, p3, p4, p5, p6, p7⟩, _⟩ := (HX.out.ev F4.out).eight; obtain ⟨⟨q0, q1, q2, q3, q4, q5, q6, q7⟩, _⟩ := (HB.out.ev F4.out).eight)
      | ((with_reducible refine (HAG.out _ E4.out).mono ?_); rintro e w5 ⟨rfl, hE5⟩; have F5 := Lib.hid (F4.out.trans hE5); have E5 := Lib.hid (HE.out.trans F5.out); clear hE5; clear p0 p1 p2 p3 p4 p5 p6 p7 q0 q1 q2 q3 q4 q5 q6 q7; obtain ⟨⟨p0, p1, p2, p3, p4, p5, p6, p7⟩, _⟩ := (HX.out.ev F5.out).eight; obtain ⟨⟨q0, q1, q2, q3, q4, q5, q6, q7⟩, _⟩ := (HB.out.ev F5.out).eight)
      | ((with_reducible refine (HKD.out _ E5.out).mono ?_); rintro e w6 ⟨rfl, hE6⟩; have F6 := Lib.hid (F5.out.trans hE6); have E6 := Lib.hid (HE.out.trans F6.out); clear hE6; clear p0 p1 p2 p3 p4 p5 p6 p7 q0 q1 q2 q3 q4 q5 q6 q7; obtain ⟨⟨p0, p1, p2, p3, p4, p5, p6, p7⟩, _⟩ := (HX.out.ev F6.out).eight; obtain ⟨⟨q0, q1, q2, q3, q4, q5, q6, q7⟩, _⟩ := (HB.out.ev F6.out).eight))
    go_ret
    exact ⟨rfl, E6.out⟩
end Go.Proofs.YtojbahjebfcmgaaGreatDoor
