/-
  Texts that belong together: The document's own Print. An expression's tree, in plain words: read again it is the expression; printed it is what was read. Package sexp: Print. Package sexp: write of a tree. Package sexp: Print of a tree whose parts are few enough.
-/
import Derived.Test.YtojbahjebfcmgaaGreatDoorZ16W
import Derived.Test.YtojbahjebfcmgaaGreatDoorZ18W
import Derived.Test.YtojbahjebfcmgaaGreatDoorZ12W
import Derived.Test.YtojbahjebfcmgaaGreatDoorZ15W
import Derived.Test.YtojbahjebfcmgaaGreatDoorZ7W
namespace Go.Proofs.YtojbahjebfcmgaaGreatDoor
open Go.RowKit
set_option linter.unusedVariables false

mutual
/-- A tree as it is printed. -/
def printS : T → By
  | .mk k s n kids _ => if k = 1 then 40 :: (printL true kids ++ [41]) else if k = 2 then s else if k = 3 then Lib.itoa n else if k = 4 then showV 2 0 ⟨s.toArray⟩ else []
def printL : Bool → List T → By
  | _, [] => []
  | b, t :: l => (if b then [] else [32]) ++ (printS t ++ printL false l)
end
mutual
/-- All numbers of a tree are such. -/
def fitsS : T → Bool
  | .mk _ _ n kids _ => decide (-9223372036854775808 ≤ n) && decide (n ≤ 9223372036854775807) && fitsAll kids
def fitsAll : List T → Bool
  | [] => true
  | t :: l => fitsS t && fitsAll l
end
theorem printL_snoc : ∀ (l : List T) (b : Bool) (t : T), printL b (l ++ [t]) = printL b l ++ ((if b && l.isEmpty then [] else [32]) ++ printS t)
  | [], b, t => by cases b <;> simp [printL]
  | a :: l, b, t => by
    have := printL_snoc l false t
    simp only [List.cons_append, printL]
    rw [this]
    simp
theorem printL_take (l : List T) (k : Nat) (t : T) (h : l[k]? = some t) : printL true (l.take (k + 1)) = printL true (l.take k) ++ ((if k = 0 then [] else [32]) ++ printS t) := by
  obtain ⟨hk, e⟩ := List.getElem?_eq_some_iff.1 h
  rw [List.take_succ_eq_append_getElem hk, printL_snoc, e]
  congr 2
  cases l with
  | nil => simp at hk
  | cons a l => cases k <;> simp
theorem printL_le : ∀ (l : List T) (b : Bool) (k : Nat), (printL b (l.take k)).length ≤ (printL b l).length
  | [], b, k => by simp
  | a :: l, b, 0 => by simp [printL]
  | a :: l, b, k + 1 => by
    have := printL_le l false k
    simp only [List.take_succ_cons, printL, List.length_append]
    omega
theorem fitsAll_at : ∀ (l : List T) (t : T), fitsAll l = true → t ∈ l → fitsS t = true
  | [], t, h, ht => by cases ht
  | a :: l, t, h, ht => by
    simp only [fitsAll, Bool.and_eq_true] at h
    rcases List.mem_cons.1 ht with rfl | h2
    · exact h.1
    · exact fitsAll_at l t h.2 h2

end Go.Proofs.YtojbahjebfcmgaaGreatDoor

namespace Go.Proofs.YtojbahjebfcmgaaGreatDoor
open Go.RowKit
set_option linter.unusedVariables false

mutual
/-- The tree of an expression that Read makes. -/
def xTree : T → T
  | .mk k s n l p => if k == 1 then .mk 2 s 0 [] 0 else if k == 2 then .mk 3 [] n [] 0 else if k == 3 then .mk 4 s 0 [] 0 else .mk 1 [] 0 (.mk 2 s 0 [] 0 :: xTrees l) 0
def xTrees : List T → List T
  | [] => []
  | t :: l => xTree t :: xTrees l
end
theorem xTrees_map : ∀ l : List T, xTrees l = l.map xTree
  | [] => rfl
  | t :: l => by simp [xTrees, xTrees_map l]
theorem xReads_ok (s : By) : ∀ (rs : List XRes) (done : List T), (xReads s done rs).2.1 = 0 → (∀ r ∈ rs, r.2.1 = 0) ∧ xReads s done rs = (.mk 4 s 0 (done ++ rs.map (·.1)) 0, 0, 0)
  | [], done, _ => ⟨(fun _ h => by cases h), by simp [xReads]⟩
  | r :: rs, done, h => by
    unfold xReads at h ⊢
    by_cases hr : r.2.1 = 0
    · rw [if_pos (by simp [hr])] at h ⊢
      obtain ⟨h1, h2⟩ := xReads_ok s rs (done ++ [r.1]) h
      refine ⟨fun x hx => ?_, by rw [h2]; simp⟩
      rcases List.mem_cons.1 hx with rfl | hx
      · exact hr
      · exact h1 x hx
    · rw [if_neg (by simp [hr])] at h
      exact absurd h hr
theorem xReads_all (s : By) : ∀ (rs : List XRes) (done : List T), (∀ r ∈ rs, r.2.1 = 0) → xReads s done rs = (.mk 4 s 0 (done ++ rs.map (·.1)) 0, 0, 0)
  | [], done, _ => by simp [xReads]
  | r :: rs, done, h => by
    unfold xReads
    rw [if_pos (by simp [h r (List.mem_cons_self ..)]), xReads_all s rs (done ++ [r.1]) fun x hx => h x (List.mem_cons_of_mem _ hx)]
    simp
/-- What one knows of a tree that was read. -/
def BackT (t : T) : Prop := (xRead t).2.1 = 0 → xRead (xTree (xRead t).1) = ((xRead t).1, 0, 0) ∧ printS (xTree (xRead t).1) = printS t
theorem printL_eq : ∀ (q q' : List T) (b : Bool), q.map printS = q'.map printS → printL b q = printL b q'
  | [], [], b, _ => rfl
  | [], _ :: _, b, h => by simp at h
  | _ :: _, [], b, h => by simp at h
  | t :: q, t' :: q', b, h => by
    simp only [List.map_cons, List.cons.injEq] at h
    unfold printL
    rw [h.1, printL_eq q q' false h.2]
theorem xRead_open (s : By) (n : Int) (l : List T) (p : Nat) : xRead (.mk 1 s n l p) = (match l with
    | [] => xBad 12 p
    | h :: q => if h.kind == 2 && !(xTakes h.s == 0) then (if q.length == xTakes h.s then xReads h.s [] (q.map xRead) else xBad 23 p) else xBad 12 p) := by
  cases l with
  | nil => rfl
  | cons h q => simp only [xRead, xReadAll_map]; rfl
theorem back_step (k : Int) (s : By) (n : Int) (l : List T) (p : Nat) (hb0 : ∀ t ∈ l, BackT t) : BackT (.mk k s n l p) := by
    intro h
    by_cases k1 : k = 1
    · subst k1
      rw [xRead_open] at h ⊢
      cases l with
      | nil => simp [xBad] at h
      | cons hd q =>
        simp only at h ⊢
        by_cases hk : (hd.kind == 2 && !(xTakes hd.s == 0)) = true
        · rw [if_pos hk] at h ⊢
          by_cases hq : (q.length == xTakes hd.s) = true
          · rw [if_pos hq] at h ⊢
            obtain ⟨h1, h2⟩ := xReads_ok hd.s _ [] h
            have hb : ∀ t ∈ q, BackT t := fun t ht => hb0 t (List.mem_cons_of_mem _ ht)
            have hb1 : ∀ t ∈ q, xRead (xTree (xRead t).1) = ((xRead t).1, 0, 0) ∧ printS (xTree (xRead t).1) = printS t := fun t ht => hb t ht (h1 _ (List.mem_map.2 ⟨t, ht, rfl⟩))
            rw [h2]
            simp only [List.nil_append, List.map_map]
            have ht : xTree (.mk 4 hd.s 0 (q.map ((fun x => x.1) ∘ xRead)) 0) = .mk 1 [] 0 (.mk 2 hd.s 0 [] 0 :: (q.map ((fun x => x.1) ∘ xRead)).map xTree) 0 := by
              rw [xTree, xTrees_map]
              rfl
            rw [ht, xRead_open]
            simp only [Bool.and_eq_true, beq_iff_eq] at hk
            have hk2 : (((T.mk 2 hd.s 0 [] 0).kind == 2) && !(xTakes (T.mk 2 hd.s 0 [] 0).s == 0)) = true := by
              show ((2 : Int) == 2 && !(xTakes hd.s == 0)) = true
              rw [hk.2]; rfl
            refine ⟨?_, ?_⟩
            · simp only [hk2, if_true]
              rw [if_pos (by rw [List.length_map, List.length_map]; exact hq), List.map_map, List.map_map]
              have he : q.map ((xRead ∘ xTree) ∘ ((fun x => x.1) ∘ xRead)) = q.map fun t => ((xRead t).1, (0 : Int), 0) := List.map_congr_left fun t ht => (hb1 t ht).1
              rw [he, xReads_all _ _ _ (fun r hr => by obtain ⟨t, _, rfl⟩ := List.mem_map.1 hr; rfl)]
              simp only [List.nil_append, List.map_map]
              rfl
            · have hp : printS hd = hd.s := by
                cases hd with
                | mk k' s' n' l' p' =>
                  have : k' = 2 := hk.1
                  subst this
                  simp [printS, T.s]
              simp only [printS, if_true]
              rw [printL, printL]
              simp only [printS, if_true, hp]
              rw [printL_eq _ q false (by
                rw [List.map_map, List.map_map]
                exact List.map_congr_left fun t ht => (hb1 t ht).2)]
              simp
          · rw [if_neg hq] at h; exact absurd h (by simp [xBad])
        · rw [if_neg hk] at h; exact absurd h (by simp [xBad])
    · by_cases k2 : k = 2
      · subst k2
        simp only [xRead, beq_self_eq_true, if_true] at h ⊢
        by_cases hn : xName s = true
        · rw [if_pos hn]
          simp [xTree, xRead, hn, printS]
        · rw [if_neg hn] at h; exact absurd h (by simp [xBad])
      · by_cases k3 : k = 3
        · subst k3
          exact ⟨rfl, by simp [xRead, xTree, printS]⟩
        · by_cases k4 : k = 4
          · subst k4
            exact ⟨rfl, by simp [xRead, xTree, printS]⟩
          · cases l <;> simp [xRead, k1, k2, k3, k4, xBad] at h
mutual
theorem back_tree : ∀ t : T, BackT t
  | .mk k s n l p => back_step k s n l p (back_trees l)
theorem back_trees : ∀ (l : List T), ∀ t ∈ l, BackT t
  | [], t, h => by cases h
  | a :: l, t, h => by
    rcases List.mem_cons.1 h with h | h
    · rw [h]; exact back_tree a
    · exact back_trees l t h
end
end Go.Proofs.YtojbahjebfcmgaaGreatDoor

namespace Go.Proofs.YtojbahjebfcmgaaGreatDoor
open Go.RowKit
set_option linter.unusedVariables false

/-- A Builder that was made behind the world w0. -/
structure WrSt (w0 : World) (b : Nat) (x v : Value) (l : By) (w : World) : Prop where
  bd : Bd b x v l w
  ev : Ev w0 w
  base : w0.heap.size ≤ b
  high : ∀ g, v.ownBlock = some g → w0.heap.size ≤ g
  good : l ≠ [] → x = .pointer (some ⟨b, 0, none⟩)
theorem WrSt.evs {w0 : World} {b : Nat} {x v : Value} {l : By} {w w' : World} (h : WrSt w0 b x v l w) (hE : Ev w w') : WrSt w0 b x v l w' := ⟨h.bd.ev hE, h.ev.trans hE, h.base, h.high, h.good⟩
theorem WrSt.step {w0 : World} {b : Nat} {x v v' : Value} {l l' : By} {w w' : World} (h : WrSt w0 b x v l w) (hb : Bd b (.pointer (some ⟨b, 0, none⟩)) v' l' w') (hB : But (b :: foot v) w w') (hs : Sprung w v v') : WrSt w0 b (.pointer (some ⟨b, 0, none⟩)) v' l' w' :=
  ⟨hb, ((But.of_ev (K := b :: foot v) h.ev).then hB).ev fun k hk => by
    rcases List.mem_cons.1 hk with rfl | hk
    · exact h.base
    · exact h.high k (mem_foot.1 hk), h.base, fun g hg => by
    rcases hs g hg with h1 | h1
    · exact h.high g h1
    · exact Nat.le_trans h.ev.size h1, fun _ => rfl⟩
theorem WrSt.box {w0 : World} {b : Nat} {x v : Value} {l : By} {w w1 w2 : World} {g : Nat} {o : Obj} (h : WrSt w0 b x v l w) (hg : w.heap.size ≤ g) (hE : Ev w w1) (ho : w1.heap[g]? = some o) (hB : But (b :: foot v) w1 w2) : w2.heap[g]? = some o := by
  refine hB.heap ho fun hm => ?_
  rcases List.mem_cons.1 hm with h1 | h1
  · have := h.bd.lt; omega
  · have := h.bd.2.2.lt (mem_foot.1 h1); omega

/-- What write gives for a tree. -/
def WriteAt (m : M) (w0 : World) : Prop :=
  ∀ (b : Nat) (x v : Value) (l : By) (w' : World), WrSt w0 b x v l w' → l.length + (printS m.t).length ≤ 1000000 → fitsS m.t = true →
    Calls Tryz.prog 107 #[.pointer (some ⟨b, 0, none⟩), .agg #[.int .i64 m.kind, .string ⟨m.s.toArray⟩, .int .i64 m.n, .slice m.A m.kids.length m.cap, .int .i64 (m.pos : Int)]] w' fun r w'' => r = .returned (.tuple #[]) ∧ ∃ x' v', WrSt w0 b x' v' (l ++ printS m.t) w''

set_option maxRecDepth 100000 in
set_option maxHeartbeats 4000000 in
theorem sx_writeOpen {w0 : World} {A : Option Addr} {nk cap : Nat} {kids : List M} (hms : Ms w0 A nk cap kids) (ih : ∀ k ∈ kids, WriteAt k w0) (L : List T) (hL : L = kids.map M.t) (hfit : fitsAll L = true)
    (b : Nat) (x v : Value) (l : By) (w' : World) (hW : WrSt w0 b x v l w') (hlen : l.length + (printL true L).length + 2 ≤ 1000000) :
    Calls Tryz.prog 164 #[.pointer (some ⟨b, 0, none⟩), .slice A nk cap] w' fun r w'' => r = .returned (.tuple #[]) ∧ ∃ x' v', WrSt w0 b x' v' (l ++ (40 :: (printL true L ++ [41]))) w'' := by
  have H1 := fun w1 (h1 : WrSt w0 b x v l w1) => builder_byte b x v l 40 w1 h1.bd (by omega)
  simp only [show (((40 : UInt8).toNat : Nat) : Int) = 40 from rfl] at H1
  have H1 := Lib.hid H1
  have hnk : kids.length = nk := hms.len
  have hc1 := hms.le
  have hc2 := hms.max
  have HNK := Lib.hid hnk
  have HL := Lib.hid hL
  have HF := Lib.hid hfit
  have HIH := Lib.hid ih
  have HMS := Lib.hid hms
  clear hnk hL hfit ih hms
  go_enter Tryz.func164, Tryz.ntmps164
  go_wp2_with (first | ((with_reducible refine (H1.out _ hW).mono ?_); rintro e w1 ⟨rfl, v1, hD1, hB1, hS1⟩))
  have S1 := hW.step hD1 hB1 hS1
  go_loopw [10] (fun iv wr => ∃ (q : Nat) (x v : Value), q ≤ nk ∧ iv = .int .i64 (q : Int) ∧ WrSt w0 b x v (l ++ (40 :: printL true (L.take q))) wr) (fun iv _ => nk - (intOf iv).toNat)
  case atStart => exact ⟨0, _, _, Nat.zero_le _, rfl, by simpa [printL] using S1⟩
  case round =>
    obtain ⟨q, xr, vr, hq, rfl, SR⟩ := hrel
    clear S1 hS1 hB1 hD1
    have hll := printL_le L true q
    by_cases hlt : q < nk
    · obtain ⟨k, hk⟩ : ∃ k, kids[q]? = some k := ⟨_, List.getElem?_eq_getElem (by rw [HNK.out]; exact hlt)⟩
      have hmr : Ms wr A nk cap kids := HMS.out.ev SR.ev
      obtain ⟨bb, off, hAA, hbl, d0, d1, d2, d3, d4⟩ := hmr.cell hk
      have hxL : L[q]? = some k.t := by rw [HL.out, List.getElem?_map, hk]; rfl
      have htk := printL_take L q k.t hxL
      have hle := printL_le L true (q + 1)
      have hfx := fitsAll_at L k.t HF.out (List.mem_of_getElem? hxL)
      unfold M.kv at d3
      have j1 : (0 : Int) ≤ (q : Int) := by omega
      have j2 : (q : Int) < (nk : Int) := by omega
      have hbx := tree_box wr k
      by_cases hq0 : q = 0
      · subst hq0
        simp only [Nat.zero_mul, Nat.add_zero] at d0 d1 d2 d3 d4
        have hHP : ∀ w1, WrSt w0 b xr vr (l ++ (40 :: printL true (L.take 0))) w1 → _ := fun w1 (h1 : WrSt w0 b xr vr (l ++ (40 :: printL true (L.take 0))) w1) => HIH.out k (List.mem_of_getElem? hk) b xr vr _ w1 h1 (by rw [htk] at hle; simp at hle ⊢; omega) hfx
        have HP := Lib.hid hHP
        have hout : l ++ (40 :: printL true (L.take 0)) ++ printS k.t = l ++ (40 :: printL true (L.take (0 + 1))) := by rw [htk]; simp
        have HO := Lib.hid hout
        simp only [Int.natCast_zero]
        rw [hAA]
        clear hout htk hle hfx hxL hmr hk hHP hll
        go_wp2_with (first | ((with_reducible refine (HP.out _ (SR.evs (Ev.alloc _ _))).mono ?_); rintro r w9 ⟨rfl, x9, v9, S9⟩; rw [HO.out] at S9))
        go_roundw
        case rel => exact ⟨1, x9, v9, by omega, rfl, S9⟩
        case measure => simp [intOf]; omega
      · have hq1 : 0 < q := by omega
        have HB := fun w1 (h1 : WrSt w0 b xr vr (l ++ (40 :: printL true (L.take q))) w1) => builder_byte b xr vr _ 32 w1 h1.bd (by simp; omega)
        simp only [show (((32 : UInt8).toNat : Nat) : Int) = 32 from rfl] at HB
        have HB := Lib.hid HB
        have HP := Lib.hid (fun w1 x v (h1 : WrSt w0 b x v (l ++ (40 :: printL true (L.take q)) ++ [32]) w1) => HIH.out k (List.mem_of_getElem? hk) b x v _ w1 h1 (by rw [htk] at hle; simp [hq0] at hle ⊢; omega) hfx)
        have hout : l ++ (40 :: printL true (L.take q)) ++ [32] ++ printS k.t = l ++ (40 :: printL true (L.take (q + 1))) := by rw [htk]; simp [hq0]
        have HO := Lib.hid hout
        rw [hAA]
        clear hout htk hle hfx hxL hmr hk hll
        go_wp2_with (first
          | ((with_reducible refine (HB.out _ (SR.evs (Ev.alloc _ _))).mono ?_); rintro r w8 ⟨rfl, v8, hD8, hB8, hS8⟩; have S8 := (SR.evs (Ev.alloc _ _)).step hD8 hB8 hS8; obtain ⟨c0, c1, c2, c3, c4⟩ := box_cells (SR.box (Nat.le_refl _) (Ev.alloc _ _) hbx hB8))
          | ((with_reducible refine (HP.out _ _ _ S8).mono ?_); rintro r w9 ⟨rfl, x9, v9, S9⟩; rw [HO.out] at S9))
        go_roundw
        case rel => exact ⟨q + 1, x9, v9, by omega, by go_num, S9⟩
        case measure => simp [intOf]; omega
    · obtain rfl : q = nk := by omega
      have HB := fun w1 (h1 : WrSt w0 b xr vr (l ++ (40 :: printL true (L.take q))) w1) => builder_byte b xr vr _ 41 w1 h1.bd (by simp; omega)
      simp only [show (((41 : UInt8).toNat : Nat) : Int) = 41 from rfl] at HB
      have HB := Lib.hid HB
      have hout : l ++ (40 :: printL true (L.take q)) ++ [41] = l ++ (40 :: (printL true L ++ [41])) := by rw [List.take_of_length_le (by rw [HL.out, List.length_map, HNK.out]; exact Nat.le_refl _)]; simp
      have HO := Lib.hid hout
      clear hout hll
      go_wp2_with (first | ((with_reducible refine (HB.out _ SR).mono ?_); rintro r w8 ⟨rfl, v8, hD8, hB8, hS8⟩; have S8 := SR.step hD8 hB8 hS8; rw [HO.out] at S8))
      go_end0
      exact ⟨rfl, _, _, S8⟩
end Go.Proofs.YtojbahjebfcmgaaGreatDoor

namespace Go.Proofs.YtojbahjebfcmgaaGreatDoor
open Go.RowKit
set_option linter.unusedVariables false

theorem showV_num (n : Int) : showV 1 n ⟨#[]⟩ = Lib.itoa n := by
  have h : rightV 1 n ⟨#[]⟩ = true := by unfold rightV; rw [if_pos rfl]; simp [Lib.toList_data]
  unfold showV; rw [if_pos h, if_pos rfl]

set_option maxRecDepth 100000 in
set_option maxHeartbeats 4000000 in
theorem sx_write {w0 : World} (hT : Tab w0) {b0 : Nat} {K : List Nat} {m : M} (h : Lies b0 K w0 m) : WriteAt m w0 := by
  induction h with
  | @mk kind s n A cap kids pos hms hA hkl ih =>
    intro b x v l w' hW hlen hfit
    simp only [M.t, M.ts_map, printS, fitsS, Bool.and_eq_true, decide_eq_true_eq] at hlen hfit ⊢
    obtain ⟨⟨hn0, hn1⟩, hfk⟩ := hfit
    simp only [M.kind, M.s, M.n, M.A, M.kids, M.cap, M.pos] at *
    have hTr : Tab w' := hT.ev hW.ev
    by_cases k1 : kind = 1
    · subst k1
      simp only [if_true] at hlen ⊢
      have HO := Lib.hid (fun w1 (h1 : WrSt w0 b x v l w1) => sx_writeOpen hms ih (kids.map M.t) rfl hfk b x v l w1 h1 (by simp at hlen; omega))
      have hc1 := hms.le
      have hc2 := hms.max
      have HNK := Lib.hid hn0
      have HNK2 := Lib.hid hn1
      have HW := Lib.hid hW
      clear hms ih hfk hn0 hn1 hlen hA hkl
      go_enter Tryz.func107, Tryz.ntmps107
      go_wp2_with (first | ((with_reducible refine (HO.out _ (HW.out.evs (Ev.alloc _ _))).mono ?_); rintro r w9 ⟨rfl, x9, v9, S9⟩))
      go_end0
      exact ⟨rfl, _, _, S9⟩
    · rw [if_neg k1] at hlen ⊢
      by_cases k2 : kind = 2
      · subst k2
        simp only [if_true] at hlen ⊢
        have HB := Lib.hid (fun w1 (h1 : WrSt w0 b x v l w1) => builder_str b x v l ⟨s.toArray⟩ w1 h1.bd (by rw [sx_size]; omega))
        have HW := Lib.hid hW
        clear hms ih hfk hn0 hn1 hlen hA hkl
        go_enter Tryz.func107, Tryz.ntmps107
        go_wp2_with (first | ((with_reducible refine (HB.out _ (HW.out.evs (Ev.alloc _ _))).mono ?_); rintro r w9 ⟨rfl, v9, hD9, hB9, hS9⟩; have S9 := (HW.out.evs (Ev.alloc _ _)).step hD9 hB9 hS9))
        go_end0
        exact ⟨rfl, _, _, S9⟩
      · rw [if_neg k2] at hlen ⊢
        by_cases k3 : kind = 3
        · subst k3
          simp only [if_true] at hlen ⊢
          have HN := Lib.hid (fun w1 => value_num n w1)
          have HS := Lib.hid (fun w1 (h1 : Tab w1) => value_show 1 n ⟨#[]⟩ w1 h1 hn0 hn1)
          have HB := Lib.hid (fun w1 (h1 : WrSt w0 b x v l w1) => builder_str b x v l ⟨(showV 1 n ⟨#[]⟩).toArray⟩ w1 h1.bd (by rw [sx_size, showV_num]; omega))
          have HW := Lib.hid hW
          have HT := Lib.hid hTr
          clear hms ih hfk hn0 hn1 hlen hA hkl hTr
          go_enter Tryz.func107, Tryz.ntmps107
          go_wp2_with (first
            | ((with_reducible refine (HN.out _).mono ?_); rintro r w7 ⟨rfl, hE7⟩)
            | ((with_reducible refine (HS.out _ (HT.out.ev ((Ev.alloc _ _).trans hE7))).mono ?_); rintro r w8 ⟨rfl, hE8⟩)
            | ((with_reducible refine (HB.out _ (HW.out.evs (((Ev.alloc _ _).trans hE7).trans hE8))).mono ?_); rintro r w9 ⟨rfl, v9, hD9, hB9, hS9⟩; have S9 := (HW.out.evs (((Ev.alloc _ _).trans hE7).trans hE8)).step hD9 hB9 hS9))
          go_end0
          rw [showV_num] at S9
          exact ⟨rfl, _, _, S9⟩
        · rw [if_neg k3] at hlen ⊢
          by_cases k4 : kind = 4
          · subst k4
            simp only [if_true] at hlen ⊢
            have HN := Lib.hid (fun w1 => value_str ⟨s.toArray⟩ w1)
            have HS := Lib.hid (fun w1 (h1 : Tab w1) => value_show 2 0 ⟨s.toArray⟩ w1 h1 (by omega) (by omega))
            have HB := Lib.hid (fun w1 (h1 : WrSt w0 b x v l w1) => builder_str b x v l ⟨(showV 2 0 ⟨s.toArray⟩).toArray⟩ w1 h1.bd (by rw [sx_size]; omega))
            have HW := Lib.hid hW
            have HT := Lib.hid hTr
            clear hms ih hfk hn0 hn1 hlen hA hkl hTr
            go_enter Tryz.func107, Tryz.ntmps107
            go_wp2_with (first
              | ((with_reducible refine (HN.out _).mono ?_); rintro r w7 ⟨rfl, hE7⟩)
              | ((with_reducible refine (HS.out _ (HT.out.ev ((Ev.alloc _ _).trans hE7))).mono ?_); rintro r w8 ⟨rfl, hE8⟩)
              | ((with_reducible refine (HB.out _ (HW.out.evs (((Ev.alloc _ _).trans hE7).trans hE8))).mono ?_); rintro r w9 ⟨rfl, v9, hD9, hB9, hS9⟩; have S9 := (HW.out.evs (((Ev.alloc _ _).trans hE7).trans hE8)).step hD9 hB9 hS9))
            go_end0
            exact ⟨rfl, _, _, S9⟩
          · rw [if_neg k4]
            simp only [List.append_nil]
            have HW := Lib.hid hW
            clear hms ih hfk hn0 hn1 hlen hA hkl hTr
            go_enter Tryz.func107, Tryz.ntmps107
            go_wp2
            go_end0
            exact ⟨rfl, _, _, HW.out.evs (Ev.alloc _ _)⟩
end Go.Proofs.YtojbahjebfcmgaaGreatDoor

namespace Go.Proofs.YtojbahjebfcmgaaGreatDoor
open Go.RowKit
set_option linter.unusedVariables false

set_option maxRecDepth 100000 in
set_option maxHeartbeats 4000000 in
theorem sx_print {w0 : World} (hT : Tab w0) {b0 : Nat} {K : List Nat} {m : M} (h : Lies b0 K w0 m) (hlen : (printS m.t).length ≤ 1000000) (hne : printS m.t ≠ []) (hfit : fitsS m.t = true)
    (hend : ∀ w', Ev w0 w' → Calls Tryz.prog 106 #[.agg #[.int .i64 m.kind, .string ⟨m.s.toArray⟩, .int .i64 m.n, .slice m.A m.kids.length m.cap, .int .i64 (m.pos : Int)]] w' fun r w'' => r = .returned (.bool true) ∧ Ev w' w'') :
    Calls Tryz.prog 59 #[.agg #[.int .i64 m.kind, .string ⟨m.s.toArray⟩, .int .i64 m.n, .slice m.A m.kids.length m.cap, .int .i64 (m.pos : Int)]] w0 fun r w'' => r = .returned (.string ⟨(printS m.t).toArray⟩) ∧ Ev w0 w'' := by
  have HE := Lib.hid hend
  have HW := Lib.hid (fun wa (hE : Ev w0 wa) wb (hwb : wb = wa.alloc (.cells #[.pointer none, .slice none 0 0] 149)) => by
    have D0 : Bd wa.heap.size (.pointer none) (.slice none 0 0) [] wb := by rw [hwb]; exact ⟨heap_alloc_new wa _, .inl rfl, Row.nil_ _⟩
    have hE0 : Ev wa wb := hwb ▸ Ev.alloc wa _
    exact sx_write (hT.ev hE) (h.ev hE) wa.heap.size (.pointer none) (.slice none 0 0) [] wb ⟨D0, hE0, Nat.le_refl _, fun g hg => (by cases hg), fun h => absurd rfl h⟩ (by simpa using hlen) hfit)
  have HS := Lib.hid (fun (wa : World) (x v : Value) (w4 : World) (h4 : WrSt wa wa.heap.size x v (([] : By) ++ printS m.t) w4) => Tryz.Builder_String_k wa.heap.size wa.heap.size (printS m.t) w4 (.inr ⟨Nat.le_refl _, v, (h4.good (by rw [List.nil_append]; exact hne)) ▸ h4.bd.1, by have := World.ownsRowF_of (h4.bd.2.2.base h4.high); rw [Lib.byteCells_length]; exact this, h4.bd.ne⟩) hne)
  have hc1 := h.ms.le
  have hc2 := h.ms.max
  clear hlen hfit hend
  go_enter Tryz.func59, Tryz.ntmps59
  go_wp2_with (first
    | ((with_reducible refine (HE.out _ (Ev.alloc _ _)).mono ?_); rintro r w1 ⟨rfl, hE1⟩; obtain ⟨c0, c1, c2, c3, c4⟩ := box_cells (box_ev (tree_box w0 m) (hE1.trans (Ev.alloc w1 (.cells #[.pointer none, .slice none 0 0] 149)))))
    | ((with_reducible refine (HW.out _ ((Ev.alloc _ _).trans hE1) _ rfl).mono ?_); rintro r w2 ⟨rfl, x2, v2, S2⟩)
    | ((with_reducible refine (HS.out _ _ _ _ S2).mono ?_); rintro r w4 ⟨rfl, _, hb4, _⟩))
  go_ret
  exact ⟨rfl, ((Ev.alloc _ _).trans hE1).trans (Below.trans S2.ev hb4)⟩
end Go.Proofs.YtojbahjebfcmgaaGreatDoor
