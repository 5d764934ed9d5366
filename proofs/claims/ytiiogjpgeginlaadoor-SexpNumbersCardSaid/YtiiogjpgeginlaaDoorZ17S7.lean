/-
  Texts that belong together: The document's own Print. Package sexp: Print. Package sexp: write of a tree. Package sexp: Print of a tree whose parts are few enough. The texts of SexpNumbers: both Reads give the same; what they give can be printed. The law's own function same: of one tree, once the program's and once the document's.
-/
import Derived.Test.YtiiogjpgeginlaaDoorZ12S7
import Derived.Test.YtiiogjpgeginlaaDoorZ15S7
import Derived.Test.YtiiogjpgeginlaaDoorZ9S7
import Derived.Test.YtiiogjpgeginlaaDoorZ5S7
import Derived.KernelRfl
import Derived.Test.YtiiogjpgeginlaaDoorZ14S7
import Derived.Deep.RegionWith
namespace Go.Proofs.YtiiogjpgeginlaaDoor
open Go.RowKit
set_option linter.unusedVariables false

mutual
/-- A tree as it is printed. -/
def printS : T → By
  | .mk k s n kids _ => if k = 1 then 40 :: (printL true kids ++ [41]) else if k = 2 then s else if k = 3 then Lib.itoa n else if k = 4 then showV 2 0 ⟨s.toArray⟩ else []
def printL : Bool → List T → By
  | _, [] => []
  | b, t :: l => (if b then [] else [32]) ++ (printS t ++ printL false l)
end
mutual
/-- All numbers of a tree are such. -/
def fitsS : T → Bool
  | .mk _ _ n kids _ => decide (-9223372036854775808 ≤ n) && decide (n ≤ 9223372036854775807) && fitsAll kids
def fitsAll : List T → Bool
  | [] => true
  | t :: l => fitsS t && fitsAll l
end
theorem printL_snoc : ∀ (l : List T) (b : Bool) (t : T), printL b (l ++ [t]) = printL b l ++ ((if b && l.isEmpty then [] else [32]) ++ printS t)
  | [], b, t => by cases b <;> simp [printL]
  | a :: l, b, t => by
    have := printL_snoc l false t
    simp only [List.cons_append, printL]
    rw [this]
    simp
theorem printL_take (l : List T) (k : Nat) (t : T) (h : l[k]? = some t) : printL true (l.take (k + 1)) = printL true (l.take k) ++ ((if k = 0 then [] else [32]) ++ printS t) := by
  obtain ⟨hk, e⟩ := List.getElem?_eq_some_iff.1 h
  rw [List.take_succ_eq_append_getElem hk, printL_snoc, e]
  congr 2
  cases l with
  | nil => simp at hk
  | cons a l => cases k <;> simp
theorem printL_le : ∀ (l : List T) (b : Bool) (k : Nat), (printL b (l.take k)).length ≤ (printL b l).length
  | [], b, k => by simp
  | a :: l, b, 0 => by simp [printL]
  | a :: l, b, k + 1 => by
    have := printL_le l false k
    simp only [List.take_succ_cons, printL, List.length_append]
    omega
theorem fitsAll_at : ∀ (l : List T) (t : T), fitsAll l = true → t ∈ l → fitsS t = true
  | [], t, h, ht => by cases ht
  | a :: l, t, h, ht => by
    simp only [fitsAll, Bool.and_eq_true] at h
    rcases List.mem_cons.1 ht with rfl | h2
    · exact h.1
    · exact fitsAll_at l t h.2 h2

/-- What Print gives for a tree. -/
def PrintAt (m : M) (w : World) : Prop :=
  ∀ (w' : World), Ev w w' → (printS m.t).length ≤ 1000000 → fitsS m.t = true →
    Calls Tryd.prog 9 #[.agg #[.int .i64 m.kind, .string ⟨m.s.toArray⟩, .int .i64 m.n, .slice m.A m.kids.length m.cap, .int .i64 (m.pos : Int)]] w' fun r w'' => r = .returned (.string ⟨(printS m.t).toArray⟩) ∧ Ev w' w''

set_option maxRecDepth 100000 in
set_option maxHeartbeats 800000 in
theorem rf_quote (s : ByteArray) (w : World) :
    Calls Tryd.prog 29 #[.string s] w fun e w' => e = .returned (.string ⟨(showV 2 0 s).toArray⟩) ∧ Ev w w' := by
  have HS := Lib.hid (fun w1 => refr_show 2 0 s w1 (by decide) (by decide))
  go_enter Tryd.func29, Tryd.ntmps29
  go_wp2_with (first | ((with_reducible refine (HS.out _).mono ?_); rintro x w1 ⟨rfl, hE1⟩))
  go_ret
  exact ⟨rfl, hE1⟩
theorem rf_box_ev {w : World} {g : Nat} {m : M} {T_ : TypeId} (h : w.heap[g]? = some (.cells (mc m).toArray T_ (0, 0))) : w.cell? ⟨g, 0, none⟩ = some (.int .i64 m.kind) ∧ w.cell? ⟨g, 1, none⟩ = some (.string ⟨m.s.toArray⟩) ∧ w.cell? ⟨g, 2, none⟩ = some (.int .i64 m.n) ∧ w.cell? ⟨g, 3, none⟩ = some (.slice m.A m.kids.length m.cap) ∧ w.cell? ⟨g, 4, none⟩ = some (.int .i64 (m.pos : Int)) := by
  refine ⟨?_, ?_, ?_, ?_, ?_⟩ <;> (rw [Lib.cell_of_heap h]; rfl)

set_option maxRecDepth 100000 in
set_option maxHeartbeats 4000000 in
theorem rf_print {b0 : Nat} {K : List Nat} {w : World} {m : M} (h : Lies b0 K w m) : PrintAt m w := by
  induction h with
  | @mk kind s n A cap kids pos hms hA hkl ih =>
    intro w' hE hlen hfit
    obtain ⟨w0, hw0⟩ : ∃ w0, w0 = w'.alloc (.cells #[.int .i64 kind, .string ⟨s.toArray⟩, .int .i64 n, .slice A kids.length cap, .int .i64 (pos : Int)] 31) := ⟨_, rfl⟩
    have hbx : w0.heap[w'.heap.size]? = some (.cells (mc (.mk kind s n A cap kids pos)).toArray 31 (0, 0)) := by rw [hw0]; exact heap_alloc_new _ _
    have hE0 : Ev w' w0 := by rw [hw0]; exact Ev.alloc _ _
    obtain ⟨c0, c1, c2, c3, c4⟩ := rf_box_ev hbx
    have hP : printS (M.t (.mk kind s n A cap kids pos)) = if kind = 1 then 40 :: (printL true (kids.map M.t) ++ [41]) else if kind = 2 then s else if kind = 3 then Lib.itoa n else if kind = 4 then showV 2 0 ⟨s.toArray⟩ else [] := by simp only [M.t, printS, M.ts_map]
    have hF : (-9223372036854775808 ≤ n ∧ n ≤ 9223372036854775807) ∧ fitsAll (kids.map M.t) = true := by
      simp only [M.t, fitsS, M.ts_map, Bool.and_eq_true, decide_eq_true_eq] at hfit
      exact hfit
    generalize printS (M.t (.mk kind s n A cap kids pos)) = Y at *
    simp only [M.kind, M.s, M.n, M.A, M.kids, M.cap, M.pos] at c0 c1 c2 c3 c4 ⊢
    have hw0' := hw0.symm
    clear hw0 hfit
    by_cases k1 : kind = 1
    · subst k1
      rw [if_pos rfl] at hP
      obtain ⟨L, hL⟩ : ∃ L, L = kids.map M.t := ⟨_, rfl⟩
      rw [← hL] at hP hF
      have hLl : (printL true L).length ≤ 1000000 := by rw [hP] at hlen; simp at hlen; omega
      obtain ⟨nk, hnk⟩ : ∃ nk, nk = kids.length := ⟨_, rfl⟩
      have hcapm := hms.max
      have hcap := hms.le
      rw [← hnk] at c3 hcap hw0' ⊢
      have HNK := Lib.hid hnk
      have HL := Lib.hid hL
      have HP := Lib.hid hP
      have HF := Lib.hid hF.2
      have HIH := Lib.hid ih
      have HMS := Lib.hid hms
      have HLl := Lib.hid hLl
      clear hms ih hP hL hLl hkl hA hnk hlen hF
      go_enter Tryd.func9, Tryd.ntmps9
      go_wp2
      go_loopw [3, 4] (fun sv iv wr => ∃ q : Nat, q ≤ nk ∧ iv = .int .i64 (q : Int) ∧ sv = .string ⟨(40 :: printL true (L.take q)).toArray⟩ ∧ Ev w0 wr) (fun _ iv _ => nk - (intOf iv).toNat)
      case atStart => exact ⟨0, Nat.zero_le _, rfl, by simp [printL], Ev.refl _⟩
      case round =>
        obtain ⟨q, hq, rfl, rfl, hE1⟩ := hrel
        obtain ⟨c0', c1', c2', c3', c4'⟩ := rf_box_ev (box_ev hbx hE1)
        simp only [M.kind, M.s, M.n, M.A, M.kids, M.cap, M.pos] at c0' c1' c2' c3' c4'
        rw [← HNK.out] at c3'
        have hXl : (40 :: printL true (L.take q) : By).length ≤ 1000001 := by have := printL_le L true q; have := HLl.out; simp; omega
        have hz := sx_size (40 :: printL true (L.take q))
        by_cases hlt : q < nk
        · obtain ⟨x, hx⟩ : ∃ x, kids[q]? = some x := ⟨_, List.getElem?_eq_getElem (by rw [← HNK.out]; exact hlt)⟩
          have hmr : Ms wr A kids.length cap kids := HMS.out.ev ((hE.trans hE0).trans hE1)
          obtain ⟨b, off, hAA, hbl, d0, d1, d2, d3, d4⟩ := hmr.cell hx
          have hxL : L[q]? = some x.t := by rw [HL.out, List.getElem?_map, hx]; rfl
          have htk := printL_take L q x.t hxL
          have hle := printL_le L true (q + 1)
          have hxl : (printS x.t).length ≤ 1000000 := by rw [htk] at hle; have := HLl.out; simp at hle; omega
          have hfx := fitsAll_at L x.t HF.out (List.mem_of_getElem? hxL)
          have HPx := Lib.hid (fun w1 (h1 : Ev wr w1) => HIH.out x (List.mem_of_getElem? hx) w1 (((hE.trans hE0).trans hE1).trans h1) hxl hfx)
          unfold M.kv at d3
          rw [hAA] at c3'
          have j1 : (0 : Int) ≤ (q : Int) := by omega
          have j2 : (q : Int) < (nk : Int) := by omega
          have hzx := sx_size (printS x.t)
          generalize hX : (40 :: printL true (L.take q) : By) = X at *
          generalize hX2 : (40 :: printL true (L.take (q + 1)) : By) = X2 at *
          by_cases hq0 : q = 0
          · subst hq0
            simp only [Nat.zero_mul, Nat.add_zero] at d0 d1 d2 d3 d4
            simp only [Int.natCast_zero]
            have hcat : (⟨X.toArray⟩ : ByteArray) ++ ⟨(printS x.t).toArray⟩ = ⟨X2.toArray⟩ := (sx_cat _ _).trans (by rw [← hX, ← hX2, htk]; simp)
            have HCat := Lib.hid hcat
            have HX2 := Lib.hid hX2
            generalize printS x.t = Px at *
            clear hcat hX hX2 htk hle hfx hxL hmr hx hAA
            go_wp2_with (first | ((with_reducible refine (HPx.out _ (Ev.refl _)).mono ?_); rintro r w9 ⟨rfl, hE9⟩))
            go_roundw
            case rel => exact ⟨1, by omega, rfl, by rw [HX2.out]; exact congrArg Value.string HCat.out, hE1.trans hE9⟩
            case measure => simp [intOf]; omega
          · have hq1 : 0 < q := by omega
            have hcat1 : (⟨X.toArray⟩ : ByteArray) ++ ⟨#[32]⟩ = ⟨(X ++ [32]).toArray⟩ := sx_cat X [32]
            have hcat : (⟨X.toArray⟩ : ByteArray) ++ ⟨#[32]⟩ ++ ⟨(printS x.t).toArray⟩ = ⟨X2.toArray⟩ := by rw [hcat1]; exact (sx_cat _ _).trans (by rw [← hX, ← hX2, htk]; simp [hq0])
            have HCat := Lib.hid hcat
            have HX2 := Lib.hid hX2
            generalize printS x.t = Px at *
            clear hcat hcat1 hX hX2 htk hle hfx hxL hmr hx hAA
            go_wp2_with (first | ((with_reducible refine (HPx.out _ (Ev.refl _)).mono ?_); rintro r w9 ⟨rfl, hE9⟩))
            go_roundw
            case rel => exact ⟨q + 1, by omega, by go_num, by rw [HX2.out]; exact congrArg Value.string HCat.out, hE1.trans hE9⟩
            case measure => simp [intOf]; omega
        · obtain rfl : q = nk := by omega
          have hY : (40 :: printL true (L.take q) : By) ++ [41] = Y := by
            rw [HP.out, List.take_of_length_le (by rw [HL.out, List.length_map, ← HNK.out]; exact Nat.le_refl _)]
            rfl
          generalize (40 :: printL true (L.take q) : By) = X at *
          have HY := Lib.hid hY
          clear hY
          go_wp2
          go_ret
          exact ⟨by rw [← HY.out]; exact congrArg (fun b => Ending.returned (Value.string b)) (sx_cat X [41]), hE0.trans hE1⟩
    · rw [if_neg k1] at hP
      by_cases k2 : kind = 2
      · subst k2
        rw [if_pos rfl] at hP
        subst hP
        clear ih hkl hms hF hbx
        generalize kids.length = nk at *
        go_enter Tryd.func9, Tryd.ntmps9
        go_wp2
        go_ret
        exact ⟨rfl, hE0⟩
      · rw [if_neg k2] at hP
        by_cases k3 : kind = 3
        · subst k3
          rw [if_pos rfl] at hP
          have HD := Lib.hid (fun w1 => refr_digits n w1 hF.1.1 hF.1.2)
          rw [← hP] at HD
          clear ih hkl hms hF hbx hP
          generalize kids.length = nk at *
          go_enter Tryd.func9, Tryd.ntmps9
          go_wp2_with (first | ((with_reducible refine (HD.out _).mono ?_); rintro x w1 ⟨rfl, hE1⟩))
          go_ret
          exact ⟨rfl, hE0.trans hE1⟩
        · rw [if_neg k3] at hP
          by_cases k4 : kind = 4
          · subst k4
            rw [if_pos rfl] at hP
            have HD := Lib.hid (fun w1 => rf_quote ⟨s.toArray⟩ w1)
            rw [← hP] at HD
            clear ih hkl hms hF hbx hP
            generalize kids.length = nk at *
            go_enter Tryd.func9, Tryd.ntmps9
            go_wp2_with (first | ((with_reducible refine (HD.out _).mono ?_); rintro x w1 ⟨rfl, hE1⟩))
            go_ret
            exact ⟨rfl, hE0.trans hE1⟩
          · rw [if_neg k4] at hP
            subst hP
            clear ih hkl hms hF hbx
            generalize kids.length = nk at *
            have j1 : (kind == 1) = false := beq_eq_false_iff_ne.2 k1
            have j2 : (kind == 2) = false := beq_eq_false_iff_ne.2 k2
            have j3 : (kind == 3) = false := beq_eq_false_iff_ne.2 k3
            have j4 : (kind == 4) = false := beq_eq_false_iff_ne.2 k4
            go_enter Tryd.func9, Tryd.ntmps9
            go_wp2
            go_ret
            exact ⟨rfl, hE0⟩
end Go.Proofs.YtiiogjpgeginlaaDoor

namespace Go.Proofs.YtiiogjpgeginlaaDoor
open Go.RowKit
set_option linter.unusedVariables false

/-- A Builder that was made behind the world w0. -/
structure WrSt (w0 : World) (b : Nat) (x v : Value) (l : By) (w : World) : Prop where
  bd : Bd b x v l w
  ev : Ev w0 w
  base : w0.heap.size ≤ b
  high : ∀ g, v.ownBlock = some g → w0.heap.size ≤ g
  good : l ≠ [] → x = .pointer (some ⟨b, 0, none⟩)
theorem WrSt.evs {w0 : World} {b : Nat} {x v : Value} {l : By} {w w' : World} (h : WrSt w0 b x v l w) (hE : Ev w w') : WrSt w0 b x v l w' := ⟨h.bd.ev hE, h.ev.trans hE, h.base, h.high, h.good⟩
theorem WrSt.step {w0 : World} {b : Nat} {x v v' : Value} {l l' : By} {w w' : World} (h : WrSt w0 b x v l w) (hb : Bd b (.pointer (some ⟨b, 0, none⟩)) v' l' w') (hB : But (b :: foot v) w w') (hs : Sprung w v v') : WrSt w0 b (.pointer (some ⟨b, 0, none⟩)) v' l' w' :=
  ⟨hb, ((But.of_ev (K := b :: foot v) h.ev).then hB).ev fun k hk => by
    rcases List.mem_cons.1 hk with rfl | hk
    · exact h.base
    · exact h.high k (mem_foot.1 hk), h.base, fun g hg => by
    rcases hs g hg with h1 | h1
    · exact h.high g h1
    · exact Nat.le_trans h.ev.size h1, fun _ => rfl⟩
theorem WrSt.box {w0 : World} {b : Nat} {x v : Value} {l : By} {w w1 w2 : World} {g : Nat} {o : Obj} (h : WrSt w0 b x v l w) (hg : w.heap.size ≤ g) (hE : Ev w w1) (ho : w1.heap[g]? = some o) (hB : But (b :: foot v) w1 w2) : w2.heap[g]? = some o := by
  refine hB.heap ho fun hm => ?_
  rcases List.mem_cons.1 hm with h1 | h1
  · have := h.bd.lt; omega
  · have := h.bd.2.2.lt (mem_foot.1 h1); omega

/-- What write gives for a tree. -/
def WriteAt (m : M) (w0 : World) : Prop :=
  ∀ (b : Nat) (x v : Value) (l : By) (w' : World), WrSt w0 b x v l w' → l.length + (printS m.t).length ≤ 1000000 → fitsS m.t = true →
    Calls Tryd.prog 26 #[.pointer (some ⟨b, 0, none⟩), .agg #[.int .i64 m.kind, .string ⟨m.s.toArray⟩, .int .i64 m.n, .slice m.A m.kids.length m.cap, .int .i64 (m.pos : Int)]] w' fun r w'' => r = .returned (.tuple #[]) ∧ ∃ x' v', WrSt w0 b x' v' (l ++ printS m.t) w''

set_option maxRecDepth 100000 in
set_option maxHeartbeats 4000000 in
theorem sx_writeOpen {w0 : World} {A : Option Addr} {nk cap : Nat} {kids : List M} (hms : Ms w0 A nk cap kids) (ih : ∀ k ∈ kids, WriteAt k w0) (L : List T) (hL : L = kids.map M.t) (hfit : fitsAll L = true)
    (b : Nat) (x v : Value) (l : By) (w' : World) (hW : WrSt w0 b x v l w') (hlen : l.length + (printL true L).length + 2 ≤ 1000000) :
    Calls Tryd.prog 52 #[.pointer (some ⟨b, 0, none⟩), .slice A nk cap] w' fun r w'' => r = .returned (.tuple #[]) ∧ ∃ x' v', WrSt w0 b x' v' (l ++ (40 :: (printL true L ++ [41]))) w'' := by
  have H1 := fun w1 (h1 : WrSt w0 b x v l w1) => builder_byte b x v l 40 w1 h1.bd (by omega)
  simp only [show (((40 : UInt8).toNat : Nat) : Int) = 40 from rfl] at H1
  have H1 := Lib.hid H1
  have hnk : kids.length = nk := hms.len
  have hc1 := hms.le
  have hc2 := hms.max
  have HNK := Lib.hid hnk
  have HL := Lib.hid hL
  have HF := Lib.hid hfit
  have HIH := Lib.hid ih
  have HMS := Lib.hid hms
  clear hnk hL hfit ih hms
  go_enter Tryd.func52, Tryd.ntmps52
  go_wp2_with (first | ((with_reducible refine (H1.out _ hW).mono ?_); rintro e w1 ⟨rfl, v1, hD1, hB1, hS1⟩))
  have S1 := hW.step hD1 hB1 hS1
  go_loopw [10] (fun iv wr => ∃ (q : Nat) (x v : Value), q ≤ nk ∧ iv = .int .i64 (q : Int) ∧ WrSt w0 b x v (l ++ (40 :: printL true (L.take q))) wr) (fun iv _ => nk - (intOf iv).toNat)
  case atStart => exact ⟨0, _, _, Nat.zero_le _, rfl, by simpa [printL] using S1⟩
  case round =>
    obtain ⟨q, xr, vr, hq, rfl, SR⟩ := hrel
    clear S1 hS1 hB1 hD1
    have hll := printL_le L true q
    by_cases hlt : q < nk
    · obtain ⟨k, hk⟩ : ∃ k, kids[q]? = some k := ⟨_, List.getElem?_eq_getElem (by rw [HNK.out]; exact hlt)⟩
      have hmr : Ms wr A nk cap kids := HMS.out.ev SR.ev
      obtain ⟨bb, off, hAA, hbl, d0, d1, d2, d3, d4⟩ := hmr.cell hk
      have hxL : L[q]? = some k.t := by rw [HL.out, List.getElem?_map, hk]; rfl
      have htk := printL_take L q k.t hxL
      have hle := printL_le L true (q + 1)
      have hfx := fitsAll_at L k.t HF.out (List.mem_of_getElem? hxL)
      unfold M.kv at d3
      have j1 : (0 : Int) ≤ (q : Int) := by omega
      have j2 : (q : Int) < (nk : Int) := by omega
      have hbx := tree_box wr k
      by_cases hq0 : q = 0
      · subst hq0
        simp only [Nat.zero_mul, Nat.add_zero] at d0 d1 d2 d3 d4
        have hHP : ∀ w1, WrSt w0 b xr vr (l ++ (40 :: printL true (L.take 0))) w1 → _ := fun w1 (h1 : WrSt w0 b xr vr (l ++ (40 :: printL true (L.take 0))) w1) => HIH.out k (List.mem_of_getElem? hk) b xr vr _ w1 h1 (by rw [htk] at hle; simp at hle ⊢; omega) hfx
        have HP := Lib.hid hHP
        have hout : l ++ (40 :: printL true (L.take 0)) ++ printS k.t = l ++ (40 :: printL true (L.take (0 + 1))) := by rw [htk]; simp
        have HO := Lib.hid hout
        simp only [Int.natCast_zero]
        rw [hAA]
        clear hout htk hle hfx hxL hmr hk hHP hll
        go_wp2_with (first | ((with_reducible refine (HP.out _ (SR.evs (Ev.alloc _ _))).mono ?_); rintro r w9 ⟨rfl, x9, v9, S9⟩; rw [HO.out] at S9))
        go_roundw
        case rel => exact ⟨1, x9, v9, by omega, rfl, S9⟩
        case measure => simp [intOf]; omega
      · have hq1 : 0 < q := by omega
        have HB := fun w1 (h1 : WrSt w0 b xr vr (l ++ (40 :: printL true (L.take q))) w1) => builder_byte b xr vr _ 32 w1 h1.bd (by simp; omega)
        simp only [show (((32 : UInt8).toNat : Nat) : Int) = 32 from rfl] at HB
        have HB := Lib.hid HB
        have HP := Lib.hid (fun w1 x v (h1 : WrSt w0 b x v (l ++ (40 :: printL true (L.take q)) ++ [32]) w1) => HIH.out k (List.mem_of_getElem? hk) b x v _ w1 h1 (by rw [htk] at hle; simp [hq0] at hle ⊢; omega) hfx)
        have hout : l ++ (40 :: printL true (L.take q)) ++ [32] ++ printS k.t = l ++ (40 :: printL true (L.take (q + 1))) := by rw [htk]; simp [hq0]
        have HO := Lib.hid hout
        rw [hAA]
        clear hout htk hle hfx hxL hmr hk hll
        go_wp2_with (first
          | ((with_reducible refine (HB.out _ (SR.evs (Ev.alloc _ _))).mono ?_); rintro r w8 ⟨rfl, v8, hD8, hB8, hS8⟩; have S8 := (SR.evs (Ev.alloc _ _)).step hD8 hB8 hS8; obtain ⟨c0, c1, c2, c3, c4⟩ := box_cells (SR.box (Nat.le_refl _) (Ev.alloc _ _) hbx hB8))
          | ((with_reducible refine (HP.out _ _ _ S8).mono ?_); rintro r w9 ⟨rfl, x9, v9, S9⟩; rw [HO.out] at S9))
        go_roundw
        case rel => exact ⟨q + 1, x9, v9, by omega, by go_num, S9⟩
        case measure => simp [intOf]; omega
    · obtain rfl : q = nk := by omega
      have HB := fun w1 (h1 : WrSt w0 b xr vr (l ++ (40 :: printL true (L.take q))) w1) => builder_byte b xr vr _ 41 w1 h1.bd (by simp; omega)
      simp only [show (((41 : UInt8).toNat : Nat) : Int) = 41 from rfl] at HB
      have HB := Lib.hid HB
      have hout : l ++ (40 :: printL true (L.take q)) ++ [41] = l ++ (40 :: (printL true L ++ [41])) := by rw [List.take_of_length_le (by rw [HL.out, List.length_map, HNK.out]; exact Nat.le_refl _)]; simp
      have HO := Lib.hid hout
      clear hout hll
      go_wp2_with (first | ((with_reducible refine (HB.out _ SR).mono ?_); rintro r w8 ⟨rfl, v8, hD8, hB8, hS8⟩; have S8 := SR.step hD8 hB8 hS8; rw [HO.out] at S8))
      go_end0
      exact ⟨rfl, _, _, S8⟩
end Go.Proofs.YtiiogjpgeginlaaDoor

namespace Go.Proofs.YtiiogjpgeginlaaDoor
open Go.RowKit
set_option linter.unusedVariables false

theorem showV_num (n : Int) : showV 1 n ⟨#[]⟩ = Lib.itoa n := by
  have h : rightV 1 n ⟨#[]⟩ = true := by unfold rightV; rw [if_pos rfl]; simp [Lib.toList_data]
  unfold showV; rw [if_pos h, if_pos rfl]

set_option maxRecDepth 100000 in
set_option maxHeartbeats 4000000 in
theorem sx_write {w0 : World} (hT : Tab w0) {b0 : Nat} {K : List Nat} {m : M} (h : Lies b0 K w0 m) : WriteAt m w0 := by
  induction h with
  | @mk kind s n A cap kids pos hms hA hkl ih =>
    intro b x v l w' hW hlen hfit
    simp only [M.t, M.ts_map, printS, fitsS, Bool.and_eq_true, decide_eq_true_eq] at hlen hfit ⊢
    obtain ⟨⟨hn0, hn1⟩, hfk⟩ := hfit
    simp only [M.kind, M.s, M.n, M.A, M.kids, M.cap, M.pos] at *
    have hTr : Tab w' := hT.ev hW.ev
    by_cases k1 : kind = 1
    · subst k1
      simp only [if_true] at hlen ⊢
      have HO := Lib.hid (fun w1 (h1 : WrSt w0 b x v l w1) => sx_writeOpen hms ih (kids.map M.t) rfl hfk b x v l w1 h1 (by simp at hlen; omega))
      have hc1 := hms.le
      have hc2 := hms.max
      have HNK := Lib.hid hn0
      have HNK2 := Lib.hid hn1
      have HW := Lib.hid hW
      clear hms ih hfk hn0 hn1 hlen hA hkl
      go_enter Tryd.func26, Tryd.ntmps26
      go_wp2_with (first | ((with_reducible refine (HO.out _ (HW.out.evs (Ev.alloc _ _))).mono ?_); rintro r w9 ⟨rfl, x9, v9, S9⟩))
      go_end0
      exact ⟨rfl, _, _, S9⟩
    · rw [if_neg k1] at hlen ⊢
      by_cases k2 : kind = 2
      · subst k2
        simp only [if_true] at hlen ⊢
        have HB := Lib.hid (fun w1 (h1 : WrSt w0 b x v l w1) => builder_str b x v l ⟨s.toArray⟩ w1 h1.bd (by rw [sx_size]; omega))
        have HW := Lib.hid hW
        clear hms ih hfk hn0 hn1 hlen hA hkl
        go_enter Tryd.func26, Tryd.ntmps26
        go_wp2_with (first | ((with_reducible refine (HB.out _ (HW.out.evs (Ev.alloc _ _))).mono ?_); rintro r w9 ⟨rfl, v9, hD9, hB9, hS9⟩; have S9 := (HW.out.evs (Ev.alloc _ _)).step hD9 hB9 hS9))
        go_end0
        exact ⟨rfl, _, _, S9⟩
      · rw [if_neg k2] at hlen ⊢
        by_cases k3 : kind = 3
        · subst k3
          simp only [if_true] at hlen ⊢
          have HN := Lib.hid (fun w1 => value_num n w1)
          have HS := Lib.hid (fun w1 (h1 : Tab w1) => value_show 1 n ⟨#[]⟩ w1 h1 hn0 hn1)
          have HB := Lib.hid (fun w1 (h1 : WrSt w0 b x v l w1) => builder_str b x v l ⟨(showV 1 n ⟨#[]⟩).toArray⟩ w1 h1.bd (by rw [sx_size, showV_num]; omega))
          have HW := Lib.hid hW
          have HT := Lib.hid hTr
          clear hms ih hfk hn0 hn1 hlen hA hkl hTr
          go_enter Tryd.func26, Tryd.ntmps26
          go_wp2_with (first
            | ((with_reducible refine (HN.out _).mono ?_); rintro r w7 ⟨rfl, hE7⟩)
            | ((with_reducible refine (HS.out _ (HT.out.ev ((Ev.alloc _ _).trans hE7))).mono ?_); rintro r w8 ⟨rfl, hE8⟩)
            | ((with_reducible refine (HB.out _ (HW.out.evs (((Ev.alloc _ _).trans hE7).trans hE8))).mono ?_); rintro r w9 ⟨rfl, v9, hD9, hB9, hS9⟩; have S9 := (HW.out.evs (((Ev.alloc _ _).trans hE7).trans hE8)).step hD9 hB9 hS9))
          go_end0
          rw [showV_num] at S9
          exact ⟨rfl, _, _, S9⟩
        · rw [if_neg k3] at hlen ⊢
          by_cases k4 : kind = 4
          · subst k4
            simp only [if_true] at hlen ⊢
            have HN := Lib.hid (fun w1 => value_str ⟨s.toArray⟩ w1)
            have HS := Lib.hid (fun w1 (h1 : Tab w1) => value_show 2 0 ⟨s.toArray⟩ w1 h1 (by omega) (by omega))
            have HB := Lib.hid (fun w1 (h1 : WrSt w0 b x v l w1) => builder_str b x v l ⟨(showV 2 0 ⟨s.toArray⟩).toArray⟩ w1 h1.bd (by rw [sx_size]; omega))
            have HW := Lib.hid hW
            have HT := Lib.hid hTr
            clear hms ih hfk hn0 hn1 hlen hA hkl hTr
            go_enter Tryd.func26, Tryd.ntmps26
            go_wp2_with (first
              | ((with_reducible refine (HN.out _).mono ?_); rintro r w7 ⟨rfl, hE7⟩)
              | ((with_reducible refine (HS.out _ (HT.out.ev ((Ev.alloc _ _).trans hE7))).mono ?_); rintro r w8 ⟨rfl, hE8⟩)
              | ((with_reducible refine (HB.out _ (HW.out.evs (((Ev.alloc _ _).trans hE7).trans hE8))).mono ?_); rintro r w9 ⟨rfl, v9, hD9, hB9, hS9⟩; have S9 := (HW.out.evs (((Ev.alloc _ _).trans hE7).trans hE8)).step hD9 hB9 hS9))
            go_end0
            exact ⟨rfl, _, _, S9⟩
          · rw [if_neg k4]
            simp only [List.append_nil]
            have HW := Lib.hid hW
            clear hms ih hfk hn0 hn1 hlen hA hkl hTr
            go_enter Tryd.func26, Tryd.ntmps26
            go_wp2
            go_end0
            exact ⟨rfl, _, _, HW.out.evs (Ev.alloc _ _)⟩
end Go.Proofs.YtiiogjpgeginlaaDoor

namespace Go.Proofs.YtiiogjpgeginlaaDoor
open Go.RowKit
set_option linter.unusedVariables false

set_option maxRecDepth 100000 in
set_option maxHeartbeats 4000000 in
theorem sx_print {w0 : World} (hT : Tab w0) {b0 : Nat} {K : List Nat} {m : M} (h : Lies b0 K w0 m) (hlen : (printS m.t).length ≤ 1000000) (hne : printS m.t ≠ []) (hfit : fitsS m.t = true)
    (hend : ∀ w', Ev w0 w' → Calls Tryd.prog 25 #[.agg #[.int .i64 m.kind, .string ⟨m.s.toArray⟩, .int .i64 m.n, .slice m.A m.kids.length m.cap, .int .i64 (m.pos : Int)]] w' fun r w'' => r = .returned (.bool true) ∧ Ev w' w'') :
    Calls Tryd.prog 8 #[.agg #[.int .i64 m.kind, .string ⟨m.s.toArray⟩, .int .i64 m.n, .slice m.A m.kids.length m.cap, .int .i64 (m.pos : Int)]] w0 fun r w'' => r = .returned (.string ⟨(printS m.t).toArray⟩) ∧ Ev w0 w'' := by
  have HE := Lib.hid hend
  have HW := Lib.hid (fun wa (hE : Ev w0 wa) wb (hwb : wb = wa.alloc (.cells #[.pointer none, .slice none 0 0] 62)) => by
    have D0 : Bd wa.heap.size (.pointer none) (.slice none 0 0) [] wb := by rw [hwb]; exact ⟨heap_alloc_new wa _, .inl rfl, Row.nil_ _⟩
    have hE0 : Ev wa wb := hwb ▸ Ev.alloc wa _
    exact sx_write (hT.ev hE) (h.ev hE) wa.heap.size (.pointer none) (.slice none 0 0) [] wb ⟨D0, hE0, Nat.le_refl _, fun g hg => (by cases hg), fun h => absurd rfl h⟩ (by simpa using hlen) hfit)
  have HS := Lib.hid (fun (wa : World) (x v : Value) (w4 : World) (h4 : WrSt wa wa.heap.size x v (([] : By) ++ printS m.t) w4) => Tryd.Builder_String_k wa.heap.size wa.heap.size (printS m.t) w4 (.inr ⟨Nat.le_refl _, v, (h4.good (by rw [List.nil_append]; exact hne)) ▸ h4.bd.1, by have := World.ownsRowF_of (h4.bd.2.2.base h4.high); rw [Lib.byteCells_length]; exact this, h4.bd.ne⟩) hne)
  have hc1 := h.ms.le
  have hc2 := h.ms.max
  clear hlen hfit hend
  go_enter Tryd.func8, Tryd.ntmps8
  go_wp2_with (first
    | ((with_reducible refine (HE.out _ (Ev.alloc _ _)).mono ?_); rintro r w1 ⟨rfl, hE1⟩; obtain ⟨c0, c1, c2, c3, c4⟩ := box_cells (box_ev (tree_box w0 m) (hE1.trans (Ev.alloc w1 (.cells #[.pointer none, .slice none 0 0] 62)))))
    | ((with_reducible refine (HW.out _ ((Ev.alloc _ _).trans hE1) _ rfl).mono ?_); rintro r w2 ⟨rfl, x2, v2, S2⟩)
    | ((with_reducible refine (HS.out _ _ _ _ S2).mono ?_); rintro r w4 ⟨rfl, _, hb4, _⟩))
  go_ret
  exact ⟨rfl, ((Ev.alloc _ _).trans hE1).trans (Below.trans S2.ev hb4)⟩
end Go.Proofs.YtiiogjpgeginlaaDoor

namespace Go.Proofs.YtiiogjpgeginlaaDoor
open Go.RowKit
set_option linter.unusedVariables false

def numTexts : List By := [[],
  [32],
  [41],
  [40],
  [97, 32, 98],
  [51, 97],
  [45],
  [45, 45, 49],
  [45, 48],
  [48, 48, 55],
  [57, 50, 50, 51, 51, 55, 50, 48, 51, 54, 56, 53, 52, 55, 55, 53, 56, 48, 55],
  [57, 50, 50, 51, 51, 55, 50, 48, 51, 54, 56, 53, 52, 55, 55, 53, 56, 48, 56],
  [45, 57, 50, 50, 51, 51, 55, 50, 48, 51, 54, 56, 53, 52, 55, 55, 53, 56, 48, 56],
  [45, 57, 50, 50, 51, 51, 55, 50, 48, 51, 54, 56, 53, 52, 55, 55, 53, 56, 48, 57],
  [57, 57, 57, 57, 57, 57, 57, 57, 57, 57, 57, 57, 57, 57, 57, 57, 57, 57, 57, 57, 57, 57, 57],
  [40, 41],
  [40, 40, 41, 40, 41, 41],
  [34, 34],
  [34],
  [34, 92],
  [34, 92, 50],
  [34, 92, 50, 103, 34],
  [34, 92, 71, 48, 34],
  [34, 92, 53, 99, 34],
  [34, 195, 169, 34],
  [34, 97, 10, 98, 34],
  [65],
  [97, 9, 98],
  [40, 97, 41, 98],
  [40, 97, 41, 32, 41],
  [40, 97, 41, 32, 34],
  [97, 32, 40],
  [34, 120, 120, 120, 120, 120, 120, 120, 120, 120, 120, 120, 120, 120, 120, 120, 120, 120, 120, 120, 120, 120, 120, 120, 120, 120, 120, 120, 120, 120, 120, 120, 120, 120, 120, 120, 120, 120, 120, 120, 120, 120],
  [34, 120, 120, 120, 120, 120, 120, 120, 120, 120, 120, 120, 120, 120, 120, 120, 120, 120, 120, 120, 120, 120, 120, 120, 120, 120, 120, 120, 120, 120, 120, 120, 120, 120, 120, 120, 120, 120, 120, 120, 120, 120, 34],
  [34, 120, 120, 120, 120, 120, 120, 120, 120, 120, 120, 120, 120, 120, 120, 120, 120, 120, 120, 120, 120, 120, 120, 120, 120, 120, 120, 120, 120, 120, 120, 120, 120, 120, 120, 120, 120, 120, 120, 120, 120, 34],
  [34, 120, 120, 120, 120, 120, 120, 120, 120, 120, 120, 120, 120, 120, 120, 120, 120, 120, 120, 120, 120, 120, 120, 120, 120, 120, 120, 120, 120, 120, 120, 120, 120, 120, 120, 120, 120, 120, 120, 120, 120, 120, 10, 34],
  [40, 40, 40, 40, 40, 40, 40, 40, 40, 40, 40, 40],
  [40, 40, 40, 40, 40, 40, 40, 40, 40, 40, 40, 40, 97],
  [40, 40, 40, 40, 40, 40, 40, 40, 40, 40, 40, 40, 40],
  [40, 97, 40, 98, 40, 99, 41, 100, 41, 101, 41],
  [97, 49],
  [49, 45, 50],
  [40, 49, 45, 50, 41],
  [10, 40, 32, 97, 32, 41, 10],
  [40, 34, 97, 34, 98, 32, 49, 41]]
theorem num_same : numTexts.map rfRead = numTexts.map sxRead := by kernel_rfl
def numOk (s : By) : Bool := decide ((printS (sxRead s).1).length ≤ 1000000) && fitsS (sxRead s).1 && decide ((sxRead s).1.size ≤ 100000) && (!(printS (sxRead s).1).isEmpty || (sxRead s).1.kind == 0) && decide (s.length ≤ 1000)
theorem num_ok : numTexts.all numOk = true := by decide +kernel
end Go.Proofs.YtiiogjpgeginlaaDoor

namespace Go.Proofs.YtiiogjpgeginlaaDoor
open Go.RowKit
set_option linter.unusedVariables false

/-- What same gives for a tree and one that is alike. -/
def SameAt (x : M) (w : World) : Prop :=
  ∀ (w' : World) (b1 : Nat) (K1 : List Nat) (y : M), Ev w w' → Lies b1 K1 w' y → x.t = y.t →
    Calls Tryd.prog 7 #[.agg #[.int .i64 x.kind, .string ⟨x.s.toArray⟩, .int .i64 x.n, .slice x.A x.kids.length x.cap, .int .i64 (x.pos : Int)], .agg #[.int .i64 y.kind, .string ⟨y.s.toArray⟩, .int .i64 y.n, .slice y.A y.kids.length y.cap, .int .i64 (y.pos : Int)], .bool true] w' fun r w'' => r = .returned (.bool true) ∧ Ev w' w''

set_option maxRecDepth 100000 in
set_option maxHeartbeats 8000000 in
theorem same_any {b0 : Nat} {K : List Nat} {w : World} {m : M} (h : Lies b0 K w m) : SameAt m w := by
  induction h with
  | @mk kind s n A cap kids pos hms hA hkl ih =>
    rintro w' b1 K1 ⟨kind2, s2, n2, B, cap2, kids2, pos2⟩ hE hy hxy
    simp only [M.t, M.ts_map, T.mk.injEq] at hxy
    obtain ⟨rfl, rfl, rfl, hkk, rfl⟩ := hxy
    have hlen : kids2.length = kids.length := by have := congrArg List.length hkk; simpa using this.symm
    obtain ⟨w0, hw0⟩ : ∃ w0, w0 = (w'.alloc (.cells (mc (.mk kind s n A cap kids pos)).toArray 25)).alloc (.cells (mc (.mk kind s n B cap2 kids2 pos)).toArray 31) := ⟨_, rfl⟩
    have hb1 : w0.heap[w'.heap.size]? = some (.cells (mc (.mk kind s n A cap kids pos)).toArray 25 (0, 0)) := by rw [hw0]; exact heap_alloc2_old w' _ _
    have hb2 : w0.heap[w'.heap.size + 1]? = some (.cells (mc (.mk kind s n B cap2 kids2 pos)).toArray 31 (0, 0)) := by rw [hw0]; exact heap_alloc2_new w' _ _
    have hE0 : Ev w' w0 := by rw [hw0]; exact (Ev.alloc _ _).trans (Ev.alloc _ _)
    have hw0' : (w'.alloc (.cells #[.int .i64 kind, .string ⟨s.toArray⟩, .int .i64 n, .slice A kids.length cap, .int .i64 (pos : Int)] 25)).alloc (.cells #[.int .i64 kind, .string ⟨s.toArray⟩, .int .i64 n, .slice B kids2.length cap2, .int .i64 (pos : Int)] 31) = w0 := hw0.symm
    obtain ⟨c0, c1, c2, c3, c4⟩ := rf_box_ev hb1
    obtain ⟨d0, d1, d2, d3, d4⟩ := rf_box_ev hb2
    have hms2 := hy.ms
    simp only [M.kind, M.s, M.n, M.A, M.kids, M.cap, M.pos] at c0 c1 c2 c3 c4 d0 d1 d2 d3 d4 hms2 ⊢
    rw [hlen] at d3 hw0' hms2 ⊢
    obtain ⟨nk, hnk⟩ : ∃ nk, nk = kids.length := ⟨_, rfl⟩
    have hc1 := hms.le
    have hc2 := hms.max
    have hc3 := hms2.le
    have hc4 := hms2.max
    rw [← hnk] at c3 d3 hw0' hc1 hc3 ⊢
    have HNK := Lib.hid hnk
    have HLEN := Lib.hid hlen
    have HIH := Lib.hid ih
    have HKK := Lib.hid hkk
    have HMS := Lib.hid hms
    have HMS2 := Lib.hid hms2
    have HKID2 := Lib.hid hy.kid
    clear hw0 hms hms2 ih hkk hkl hA hnk hlen hy
    go_enter Tryd.func7, Tryd.ntmps7
    go_wp2
    go_loopw [7] (fun iv wr => ∃ q : Nat, q ≤ nk ∧ iv = .int .i64 (q : Int) ∧ Ev w0 wr) (fun iv _ => nk - (intOf iv).toNat)
    case atStart => exact ⟨0, Nat.zero_le _, rfl, Ev.refl _⟩
    case round =>
      obtain ⟨q, hq, rfl, hE1⟩ := hrel
      obtain ⟨c0', c1', c2', c3', c4'⟩ := rf_box_ev (box_ev hb1 hE1)
      obtain ⟨d0', d1', d2', d3', d4'⟩ := rf_box_ev (box_ev hb2 hE1)
      simp only [M.kind, M.s, M.n, M.A, M.kids, M.cap, M.pos] at c0' c1' c2' c3' c4' d0' d1' d2' d3' d4'
      rw [HLEN.out] at d3'
      rw [← HNK.out] at c3' d3'
      by_cases hlt : q < nk
      · obtain ⟨x, hx⟩ : ∃ x, kids[q]? = some x := ⟨_, List.getElem?_eq_getElem (by rw [← HNK.out]; exact hlt)⟩
        obtain ⟨y, hy⟩ : ∃ y, kids2[q]? = some y := ⟨_, List.getElem?_eq_getElem (by rw [HLEN.out, ← HNK.out]; exact hlt)⟩
        have hmr : Ms wr A kids.length cap kids := HMS.out.ev ((hE.trans hE0).trans hE1)
        have hmr2 : Ms wr B kids.length cap2 kids2 := HMS2.out.ev (hE0.trans hE1)
        obtain ⟨b, off, hAA, hbl, e0, e1, e2, e3, e4⟩ := hmr.cell hx
        obtain ⟨b', off', hBB, hbl', g0, g1, g2, g3, g4⟩ := hmr2.cell hy
        have hxy : x.t = y.t := by
          have h1 : (kids.map M.t)[q]? = some x.t := by rw [List.getElem?_map, hx]; rfl
          rw [HKK.out, List.getElem?_map, hy] at h1
          exact (Option.some.inj h1).symm
        have HPx := Lib.hid (fun w1 (h1 : Ev wr w1) => HIH.out x (List.mem_of_getElem? hx) w1 b1 K1 y (((hE.trans hE0).trans hE1).trans h1) ((HKID2.out y (List.mem_of_getElem? hy)).ev ((hE0.trans hE1).trans h1)) hxy)
        unfold M.kv at e3 g3
        rw [hAA] at c3'
        rw [hBB] at d3'
        have j1 : (0 : Int) ≤ (q : Int) := by omega
        have j2 : (q : Int) < (nk : Int) := by omega
        clear hmr hmr2 hx hy hxy hAA hBB
        go_wp2_with fail
        go_region_with (first | ((with_reducible refine (HPx.out _ (Ev.drew _)).mono ?_); rintro r w9 ⟨rfl, hE9⟩))
        all_goals (go_wp2; go_roundw; (case rel => exact ⟨q + 1, by omega, by go_num, hE1.trans ((Ev.drew _).trans hE9)⟩); (case measure => simp [intOf]; omega))
      · obtain rfl : q = nk := by omega
        go_wp2
        go_ret
        exact ⟨rfl, hE0.trans hE1⟩
end Go.Proofs.YtiiogjpgeginlaaDoor
