/-
  Texts that belong together: The contracts of package zset: isWrong, ContainsFunc with it, isKept, ofNet, add, Clone of a row. The contracts of package zset: isKept, ofNet, add; Clone of a row.
-/
import Derived.Test.YthpiobkghfdkkaaGreatZ14O
import Derived.Test.YthpiobkghfdkkaaGreatZ12O
namespace Go.Proofs.YthpiobkghfdkkaaGreat
open Go.RowKit
set_option linter.unusedVariables false

def partB (a : Int) : Bool := decide (0 ≤ a) && decide (a ≤ 1125899906842624)
theorem partB_iff {a : Int} : partB a = true ↔ Part a := by unfold partB Part; simp
/-- The tally is judged as its parts tell: known of all that has parts from 0 to 2^50. -/
def TallyAs (a b : Int) : Prop := ∀ w : World, Calls Tryz.prog 99 #[.complex .f64 (fl a) (fl b)] w fun e w' => e = .returned (.bool (partB a && partB b)) ∧ w = w'
theorem TallyAs.part {a b : Int} (ha : Part a) (hb : Part b) : TallyAs a b := fun w => by
  rw [partB_iff.2 ha, partB_iff.2 hb]
  exact right_i a b ha hb w
/-- An item that can be in no set. -/
def wrongJ (x : J) : Bool := !(rightR x.2.1 && (partB x.2.2.1 && partB x.2.2.2))

/-- An item in its own box. -/
structure Itembox (g : Nat) (z : J) (w : World) : Prop where
  blk : w.heap[g]? = some (.cells #[jrow z, jtal z] 62 (0, 0))
theorem Itembox.c0 {g : Nat} {z : J} {w : World} (h : Itembox g z w) : w.cell? ⟨g, 0, none⟩ = some (jrow z) := by rw [Lib.cell_of_heap h.blk]; rfl
theorem Itembox.c1 {g : Nat} {z : J} {w : World} (h : Itembox g z w) : w.cell? ⟨g, 1, none⟩ = some (jtal z) := by rw [Lib.cell_of_heap h.blk]; rfl
theorem Itembox.ev {g : Nat} {z : J} {w w' : World} (h : Itembox g z w) (he : Ev w w') : Itembox g z w' :=
  ⟨by rw [he.block g (Array.getElem?_eq_some_iff.1 h.blk).1]; exact h.blk⟩
theorem Itembox.new (z : J) (w : World) : Itembox w.heap.size z (w.alloc (.cells #[jrow z, jtal z] 62)) := ⟨heap_alloc_new w _⟩
theorem Itembox.lt {g : Nat} {z : J} {w : World} (h : Itembox g z w) : g < w.heap.size := (Array.getElem?_eq_some_iff.1 h.blk).1

/-- A law that the walk's own list lacks: a complex number is stored (lay it ahead of the walk). -/
theorem store_complex (w : World) (a : Addr) (x y : Nat) (m : Mode) : (store a (.complex .f64 x y) m).run Tryz.prog w = stored Tryz.prog w a (.complex .f64 x y) m := run_store Tryz.prog w a _ m rfl

set_option maxRecDepth 100000 in
set_option maxHeartbeats 800000 in
theorem zset_isWrong (z : J) (w : World) (hr : Vs w z.1.1 z.1.2.1 z.1.2.2 z.2.1) (ht : TallyAs z.2.2.1 z.2.2.2) :
    Calls Tryz.prog 68 #[jv z] w fun e w' => e = .returned (.bool (wrongJ z)) ∧ Ev w w' := by
  obtain ⟨⟨A, n, cap⟩, r, a, b⟩ := z
  simp only at hr ht
  obtain ⟨w0, hw0⟩ : ∃ w0, w0 = w.alloc (.cells #[.slice A n cap, .complex .f64 (fl a) (fl b)] 62) := ⟨_, rfl⟩
  have hE0 : Ev w w0 := hw0 ▸ Ev.alloc _ _
  have B0 : Itembox w.heap.size ((A, n, cap), r, a, b) w0 := hw0 ▸ Itembox.new ((A, n, cap), r, a, b) w
  have c0 : w0.cell? ⟨w.heap.size, 0, none⟩ = some (.slice A n cap) := B0.c0
  have HR := Lib.hid (row_right w0 (hr.ev hE0))
  have HT : Hid (∀ w : World, Calls Tryz.prog 99 #[.complex .f64 (fl a) (fl b)] w fun e w' => e = .returned (.bool (partB a && partB b)) ∧ w = w') := Lib.hid ht
  clear ht
  unfold wrongJ jv jrow jtal
  simp only
  generalize rightR r = x at *
  generalize (partB a && partB b) = y at *
  cases x
  · go_enter Tryz.func68, Tryz.ntmps68
    go_wp2_with (first | (rw [← hw0]; (with_reducible refine HR.out.mono ?_); rintro e w1 ⟨rfl, hE1⟩))
    go_ret
    exact ⟨rfl, hE0.trans hE1⟩
  · cases y
    · go_enter Tryz.func68, Tryz.ntmps68
      go_wp2_with (first | (rw [← hw0]; (with_reducible refine HR.out.mono ?_); rintro e w1 ⟨rfl, hE1⟩; have c1 : w1.cell? ⟨w.heap.size, 1, none⟩ = some (.complex .f64 (fl a) (fl b)) := (B0.ev hE1).c1) | ((with_reducible refine (HT.out _).mono ?_); rintro e w2 ⟨rfl, rfl⟩))
      go_ret
      exact ⟨rfl, hE0.trans hE1⟩
    · go_enter Tryz.func68, Tryz.ntmps68
      go_wp2_with (first | (rw [← hw0]; (with_reducible refine HR.out.mono ?_); rintro e w1 ⟨rfl, hE1⟩; have c1 : w1.cell? ⟨w.heap.size, 1, none⟩ = some (.complex .f64 (fl a) (fl b)) := (B0.ev hE1).c1) | ((with_reducible refine (HT.out _).mono ?_); rintro e w2 ⟨rfl, rfl⟩))
      go_ret
      exact ⟨rfl, hE0.trans hE1⟩

/-- The function isWrong as a value. -/
abbrev isWrongV : Value := .func (.func 68) #[] #[]
/-- Every item's tally is judged as its parts tell. -/
def TalliesAs (Z : List J) : Prop := ∀ z ∈ Z, TallyAs z.2.2.1 z.2.2.2

set_option maxRecDepth 100000 in
set_option maxHeartbeats 1600000 in
theorem slices_indexFunc {b0 : Nat} {A : Option Addr} {n cap : Nat} {Z : List J} (w : World) (h : Zs b0 w A n cap Z) (ht : TalliesAs Z) :
    Calls Tryz.prog 98 #[.slice A n cap, isWrongV] w fun e w' => (∃ i : Int, e = .returned (.int .i64 i) ∧ (decide (0 ≤ i) = Z.any wrongJ)) ∧ Ev w w' := by
  have hn := h.le
  have hm := h.max
  have HN := Lib.hid h.len
  have HT := Lib.hid ht
  clear ht
  go_enter Tryz.func98, Tryz.ntmps98
  go_wp2
  go_loopw [8] (fun i wr => ∃ k : Nat, k ≤ n ∧ i = .int .i64 (k : Int) ∧ Hid ((Z.take k).any wrongJ = false) ∧ Ev w wr) (fun i _ => n - (intOf i).toNat)
  case atStart => exact ⟨0, Nat.zero_le _, rfl, Lib.hid rfl, Ev.refl _⟩
  case round =>
    obtain ⟨k, hk, rfl, HF, hE⟩ := hrel
    by_cases hlt : k < n
    · obtain ⟨b, off, z, rfl, hb, hb0, hx, c0, c1, hv⟩ := (h.ev hE).at hlt
      have HI := Lib.hid (fun w1 (h1 : Ev wr w1) => zset_isWrong z w1 (hv.ev h1) (HT.out z (List.mem_of_getElem? hx)))
      have HX := Lib.hid hx
      obtain ⟨⟨A', n', cap'⟩, r, p, q⟩ := z
      clear hx hv
      generalize hz : wrongJ ((A', n', cap'), r, p, q) = y at HI
      have HZ := Lib.hid hz
      clear hz
      unfold jv jrow jtal at HI
      unfold jrow at c0
      unfold jtal at c1
      simp only at c0 c1 HI
      have i1 : (0 : Int) ≤ (k : Int) := by omega
      have i2 : (k : Int) < (n : Int) := by omega
      cases y
      · go_wp2_with (first | ((with_reducible refine (HI.out _ (Ev.refl _)).mono ?_); rintro e w1 ⟨rfl, hE1⟩))
        go_roundw
        case rel =>
          refine ⟨k + 1, by omega, by go_num, Lib.hid ?_, hE.trans hE1⟩
          obtain ⟨hk2, e⟩ := List.getElem?_eq_some_iff.1 HX.out
          rw [List.take_succ_eq_append_getElem hk2, List.any_append, HF.out, e]
          simp [HZ.out]
        case measure => simp [intOf]; omega
      · go_wp2_with (first | ((with_reducible refine (HI.out _ (Ev.refl _)).mono ?_); rintro e w1 ⟨rfl, hE1⟩))
        go_ret
        refine ⟨⟨k, rfl, ?_⟩, hE.trans hE1⟩
        rw [decide_eq_true i1]
        exact (List.any_eq_true.2 ⟨_, List.mem_of_getElem? HX.out, HZ.out⟩).symm
    · obtain rfl : k = n := by omega
      go_wp2
      go_ret
      refine ⟨⟨-1, rfl, ?_⟩, hE⟩
      have := HF.out
      rw [List.take_of_length_le (by rw [HN.out]; exact Nat.le_refl _)] at this
      rw [this]; rfl

set_option maxRecDepth 100000 in
set_option maxHeartbeats 1600000 in
theorem slices_containsFunc {b0 : Nat} {A : Option Addr} {n cap : Nat} {Z : List J} (w : World) (h : Zs b0 w A n cap Z) (ht : TalliesAs Z) :
    Calls Tryz.prog 67 #[.slice A n cap, isWrongV] w fun e w' => e = .returned (.bool (Z.any wrongJ)) ∧ Ev w w' := by
  have HI := Lib.hid (slices_indexFunc w h ht)
  generalize Z.any wrongJ = y at *
  clear ht
  go_enter Tryz.func67, Tryz.ntmps67
  go_wp2_with (first | ((with_reducible refine HI.out.mono ?_); rintro e w1 ⟨⟨i, rfl, rfl⟩, hE1⟩))
  go_ret
  exact ⟨rfl, hE1⟩
end Go.Proofs.YthpiobkghfdkkaaGreat

namespace Go.Proofs.YthpiobkghfdkkaaGreat
open Go.RowKit
set_option linter.unusedVariables false

/-- The parts of the reduced number with this Net. -/
def redP (n : Int) : Int := (n.toNat : Int)
def redQ (n : Int) : Int := ((-n).toNat : Int)
theorem redi_of (n : Int) : Redi n (redP n) (redQ n) := by unfold Redi redP redQ; omega
/-- A Net that a tally can have. -/
def okNet (n : Int) : Bool := decide (-1125899906842624 ≤ n) && decide (n ≤ 1125899906842624)
theorem okNet_iff {n : Int} : okNet n = true ↔ -1125899906842624 ≤ n ∧ n ≤ 1125899906842624 := by unfold okNet; simp
theorem okNet_no {n : Int} (h : okNet n = false) : ¬ (-1125899906842624 ≤ n ∧ n ≤ 1125899906842624) := fun k => by rw [okNet_iff.2 k] at h; cases h
theorem redP_part {n : Int} (h : okNet n = true) : Part (redP n) := by have := okNet_iff.1 h; unfold redP Part; omega
theorem redQ_part {n : Int} (h : okNet n = true) : Part (redQ n) := by have := okNet_iff.1 h; unfold redQ Part; omega
theorem red_net (n : Int) : redP n - redQ n = n := by unfold redP redQ; omega
/-- The reduced tally with this Net, as a value. -/
abbrev tv (n : Int) : Value := .complex .f64 (fl (redP n)) (fl (redQ n))
theorem tv_zero : tv 0 = .complex .f64 0 0 := by unfold tv redP redQ; simp [fl_zero]

theorem tally_add (n x y : Int) (hn : okNet n = true) (hx : Part x) (hy : Part y) (w : World) :
    Calls Tryz.prog 102 #[tv n, .complex .f64 (fl x) (fl y)] w fun e w' => e = .returned (cond (okNet (n + (x - y))) (.tuple #[tv (n + (x - y)), .bool true]) (.tuple #[.complex .f64 0 0, .bool false])) ∧ w = w' := by
  have hp := redP_part hn
  have hq := redQ_part hn
  have e1 := red_net n
  cases hk : okNet (n + (x - y))
  · have h1 := okNet_no hk
    exact add_o (redP n) (redQ n) x y hp hq hx hy (Lib.hid (by rw [e1]; omega)) w
  · exact add_i (redP n) (redQ n) x y _ _ (n + (x - y)) hp hq hx hy (Lib.hid (by rw [e1])) (redi_of _) (redP_part hk) (redQ_part hk) w

/-- The sum of Nets, one added after the other. -/
def sumN (n : Int) : List I → Option Int
  | [] => some n
  | x :: l => bif okNet (n + (x.2.1 - x.2.2)) then sumN (n + (x.2.1 - x.2.2)) l else none
theorem sumN_append (l m : List I) : ∀ n, sumN n (l ++ m) = (sumN n l).bind fun k => sumN k m := by
  induction l with
  | nil => intro n; rfl
  | cons x l ih =>
    intro n
    simp only [List.cons_append, sumN]
    cases okNet (n + (x.2.1 - x.2.2))
    · rfl
    · exact ih _
theorem sumN_ok (l : List I) : ∀ n m, okNet n = true → sumN n l = some m → okNet m = true := by
  induction l with
  | nil => intro n m h e; simp [sumN] at e; rw [← e]; exact h
  | cons x l ih =>
    intro n m h e
    simp only [sumN] at e
    cases hk : okNet (n + (x.2.1 - x.2.2))
    · rw [hk] at e; cases e
    · rw [hk] at e; exact ih _ m hk e

def AllParts (Z : List J) : Prop := ∀ z ∈ Z, Part z.2.2.1 ∧ Part z.2.2.2
def itemsOf (Z : List J) : List I := Z.map fun z => z.2

/-- What add answers. -/
def addV (s : Option Int) : Value := match s with
  | some m => .tuple #[tv m, .bool true]
  | none => .tuple #[.complex .f64 0 0, .bool false]

set_option maxRecDepth 100000 in
set_option maxHeartbeats 1600000 in
theorem zset_add {b0 : Nat} {A : Option Addr} {n cap : Nat} {Z : List J} (w : World) (h : Zs b0 w A n cap Z) (hp : AllParts Z) :
    Calls Tryz.prog 71 #[.slice A n cap] w fun e w' => e = .returned (addV (sumN 0 (itemsOf Z))) ∧ Ev w w' := by
  have hn := h.le
  have hm := h.max
  have HN := Lib.hid h.len
  have HP := Lib.hid hp
  clear hp
  have hst := store_complex
  go_enter Tryz.func71, Tryz.ntmps71
  go_wp2
  go_loopw [11, 4] (fun i s wr => ∃ k : Nat, ∃ m : Int, k ≤ n ∧ i = .int .i64 (k : Int) ∧ s = tv m ∧ Hid (okNet m = true ∧ sumN 0 (itemsOf (Z.take k)) = some m) ∧ Ev w wr) (fun i _ _ => n - (intOf i).toNat)
  case atStart => exact ⟨0, 0, Nat.zero_le _, rfl, tv_zero.symm, Lib.hid ⟨by decide, rfl⟩, Ev.refl _⟩
  case round =>
    obtain ⟨k, m, hk, rfl, rfl, HF, hE⟩ := hrel
    by_cases hlt : k < n
    · obtain ⟨b, off, z, rfl, hb, hb0, hx, c0, c1, hv⟩ := (h.ev hE).at hlt
      have hzp := HP.out z (List.mem_of_getElem? hx)
      have HX := Lib.hid hx
      obtain ⟨⟨A', n', cap'⟩, r, p, q⟩ := z
      have HA := Lib.hid (fun w1 => tally_add m p q HF.out.1 hzp.1 hzp.2 w1)
      clear hx hv hzp
      unfold jrow at c0
      unfold jtal at c1
      simp only at c0 c1
      obtain ⟨w0, hw0⟩ : ∃ w0, w0 = wr.alloc (.cells #[.slice A' n' cap', .complex .f64 (fl p) (fl q)] 62) := ⟨_, rfl⟩
      have hE0 : Ev wr w0 := hw0 ▸ Ev.alloc _ _
      have B0 : Itembox wr.heap.size ((A', n', cap'), r, p, q) w0 := hw0 ▸ Itembox.new ((A', n', cap'), r, p, q) wr
      have d1 : w0.cell? ⟨wr.heap.size, 1, none⟩ = some (.complex .f64 (fl p) (fl q)) := B0.c1
      have i1 : (0 : Int) ≤ (k : Int) := by omega
      have i2 : (k : Int) < (n : Int) := by omega
      have HS : Hid (sumN 0 (itemsOf (Z.take (k + 1))) = cond (okNet (m + (p - q))) (some (m + (p - q))) none ∧ Z.drop (k + 1) = Z.drop (k + 1)) := Lib.hid ⟨by
        obtain ⟨hk2, e⟩ := List.getElem?_eq_some_iff.1 HX.out
        rw [List.take_succ_eq_append_getElem hk2, e]
        unfold itemsOf
        rw [List.map_append, sumN_append]
        have := HF.out.2
        unfold itemsOf at this
        rw [this]
        simp only [Option.bind_some, List.map_cons, List.map_nil, sumN]
        , rfl⟩
      generalize hok : okNet (m + (p - q)) = y at *
      have HY := Lib.hid hok
      clear hok
      generalize hmm : m + (p - q) = m' at *
      clear hmm
      cases y
      · go_wp2_with (first | (rw [← hw0]; (with_reducible refine (HA.out _).mono ?_); rintro e w1 ⟨rfl, rfl⟩))
        go_ret2
        refine ⟨?_, hE.trans (Ev.alloc _ _)⟩
        have hno : sumN 0 (itemsOf Z) = none := by
          have h1 : Z = Z.take (k + 1) ++ Z.drop (k + 1) := (List.take_append_drop _ _).symm
          rw [h1]
          unfold itemsOf
          rw [List.map_append, sumN_append]
          have := HS.out.1
          unfold itemsOf at this
          rw [this]
          rfl
        rw [hno]
        rfl
      · go_wp2_with (first | (rw [← hw0]; (with_reducible refine (HA.out _).mono ?_); rintro e w1 ⟨rfl, rfl⟩))
        go_roundw
        case rel => exact ⟨k + 1, m', by omega, by go_num, rfl, Lib.hid ⟨HY.out, HS.out.1⟩, hE.trans (Ev.alloc _ _)⟩
        case measure => simp [intOf]; omega
    · obtain rfl : k = n := by omega
      go_wp2
      go_ret2
      refine ⟨?_, hE⟩
      have := HF.out.2
      rw [List.take_of_length_le (by rw [HN.out]; exact Nat.le_refl _)] at this
      rw [this]; rfl

/-- A tally that a set keeps as it is. -/
def keptB (p q : Int) : Bool := !(decide (p = 0) && decide (q = 0)) && (decide (p = 0) || decide (q = 0))
theorem order_zero {p : Int} (h : Part p) : FloatKind.f64.format.order (fl p) 0 = some (if p = 0 then .eq else .gt) := by
  obtain ⟨n, rfl, hn⟩ := h.nat
  have := order_fl n 0 (by omega) (by decide)
  rw [show ((0 : Nat) : Int) = 0 from rfl, fl_zero] at this
  rw [this]
  by_cases h0 : n = 0
  · subst h0; rfl
  · rw [Nat.compare_eq_gt.2 (by omega), if_neg (by omega)]
theorem order_gt {p p' : Int} (h : Part p) (h' : Part p') (hlt : p' < p) : FloatKind.f64.format.order (fl p) (fl p') = some .gt := by
  obtain ⟨n, rfl, hn⟩ := h.nat
  obtain ⟨m, rfl, hm⟩ := h'.nat
  rw [order_fl n m (by omega) (by omega), Nat.compare_eq_gt.2 (by omega)]

set_option maxRecDepth 100000 in
set_option maxHeartbeats 1600000 in
theorem zset_isKept (p q : Int) (hp : Part p) (hq : Part q) (w : World) :
    Calls Tryz.prog 75 #[.complex .f64 (fl p) (fl q)] w fun e w' => e = .returned (.bool (keptB p q)) ∧ w = w' := by
  have o1 := order_zero hp
  have o2 := order_zero hq
  have hpq : Part (redP (p - q)) ∧ Part (redQ (p - q)) := by unfold Part redP redQ at *; omega
  have HR := Lib.hid (fun w1 => reduce_i p q _ _ hp hq (redi_of (p - q)) w1)
  unfold keptB
  by_cases h1 : p = 0
  · by_cases h2 : q = 0
    · subst h1; subst h2
      simp only [if_true] at o1 o2
      go_enter Tryz.func75, Tryz.ntmps75
      go_wp2
      go_ret
      exact ⟨rfl, rfl⟩
    · subst h1
      rw [if_neg h2] at o2
      rw [if_pos rfl] at o1
      have e1 : redP (0 - q) = 0 := by unfold redP Part at *; omega
      have e2 : redQ (0 - q) = q := by unfold redQ Part at *; omega
      rw [e1, e2] at HR
      have o3 := same_fl hp
      have o4 := same_fl hq
      have e3 : decide (q = 0) = false := decide_eq_false h2
      rw [e3]
      clear e3 h2
      go_enter Tryz.func75, Tryz.ntmps75
      go_wp2_with (first | ((with_reducible refine (HR.out _).mono ?_); rintro e w1 ⟨rfl, rfl⟩))
      go_ret
      exact ⟨rfl, rfl⟩
  · rw [if_neg h1] at o1
    have e0 : decide (p = 0) = false := decide_eq_false h1
    by_cases h2 : q = 0
    · subst h2
      have e1 : redP (p - 0) = p := by unfold redP Part at *; omega
      have e2 : redQ (p - 0) = 0 := by unfold redQ Part at *; omega
      rw [e1, e2] at HR
      have o3 := same_fl hp
      have o4 := same_fl hq
      rw [e0]
      clear e0 h1 o2
      go_enter Tryz.func75, Tryz.ntmps75
      go_wp2_with (first | ((with_reducible refine (HR.out _).mono ?_); rintro e w1 ⟨rfl, rfl⟩))
      go_ret
      exact ⟨rfl, rfl⟩
    · have e3 : decide (q = 0) = false := decide_eq_false h2
      have o3 := order_gt hp hpq.1 (by unfold redP Part at *; omega)
      generalize redP (p - q) = p' at *
      generalize redQ (p - q) = q' at *
      rw [e0, e3]
      clear e0 e3 h1 h2 o2
      go_enter Tryz.func75, Tryz.ntmps75
      go_wp2_with (first | ((with_reducible refine (HR.out _).mono ?_); rintro e w1 ⟨rfl, rfl⟩))
      go_ret
      exact ⟨rfl, rfl⟩

/-- Clone of a row: the same values in new memory. -/
theorem row_clone {A : Option Addr} {n cap : Nat} {r : List V} (w : World) (h : Vs w A n cap r) (hn : n ≤ 1000) (h0 : 0 < n) :
    Calls Tryz.prog 72 #[.slice A n cap] w fun e w' => ∃ A' cap', e = .returned (.slice A' n cap') ∧ Vs w' A' n cap' r ∧ New w w' A' ∧ Ev w w' := by
  have q22 : ∀ (w : World) (a : Option Addr) (n c n' c' : Nat), (binOp .eql 23 (.slice a n c) (.slice none n' c')).run Tryz.prog w = .ok (.bool a.isNone) w := fun w a n c n' c' => Lib.run_eql_slice_nil w 23 32 a n c n' c' Tryz.underlying23
  have HL := Lib.hid h.len
  obtain ⟨b, off, rfl, _, _⟩ := h.rd h0
  go_enter Tryz.func72, Tryz.ntmps72
  have hE : Vrow (w.alloc (.cells #[] 32)) (.slice (some ⟨w.heap.size, 0, none⟩) 0 0) [] := Vrow.of (base := 0) (World.ownsRow_made w #[] 0 (Nat.zero_le _) (by unfold maxLen; omega) rfl)
  go_wp2_with (at_builtin; refine wpList_append_vals rfl (.tmp 5) (.tmp 6) rfl Tryz.underlying23 Tryz.infoVal (.slice (some ⟨w.heap.size, 0, none⟩) 0 0) [] rfl hE (some ⟨b, off, none⟩) n cap r rfl (h.ev (Ev.alloc _ _)) (by rw [HL.out]; simp; omega) ?_; intro v1 w1 hr1 hb1 hs1; obtain ⟨A1, cap1, rfl, hB1, hO1⟩ := hr1.vs)
  go_ret
  have hl := HL.out
  simp only [List.nil_append] at hB1 ⊢
  rw [hl] at hB1 ⊢
  refine ⟨A1, cap1, rfl, hB1, fun x hx => ⟨?_, hr1.lt (hO1 x hx)⟩, (But.ev (K := [w.heap.size]) ((But.alloc (K := [w.heap.size]) _).then (hb1.wide (by simp [foot, Value.ownBlock]))) (by simp))⟩
  rcases hs1 x.block (hO1 x hx) with h3 | h3
  · simp [Value.ownBlock] at h3; omega
  · simp at h3; omega
end Go.Proofs.YthpiobkghfdkkaaGreat
