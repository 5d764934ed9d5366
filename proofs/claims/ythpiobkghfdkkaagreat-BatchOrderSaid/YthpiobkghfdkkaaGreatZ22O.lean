/-
  Texts that belong together: The contracts of package zset: Total, Plain, Of, ofNet. The contracts of package zset: read, Decode. The contract of package zset: Decode. The book of rows: two sets held against one another; a set of one row. Sets by what they hold: the contracts once more, over a list of items; literals; the book's One. zset.Make once more: what it gives lies in new memory. Chapter 6's runs: what Make, Total, Decode answer there; 'known'.
-/
import Derived.Test.YthpiobkghfdkkaaGreatZ21O
import Derived.Test.YthpiobkghfdkkaaGreatZ8O
import Derived.Test.YthpiobkghfdkkaaGreatZ7O
import Derived.Test.YthpiobkghfdkkaaGreatZ12O
import Derived.Deep.Cut
namespace Go.Proofs.YthpiobkghfdkkaaGreat
open Go.RowKit
set_option linter.unusedVariables false

theorem AllParts.kept {Z : List J} (h : AllParts Z) : KeptAll Z := fun z hz => KeptAs.part (h z hz).1 (h z hz).2
def totalV (b : Bool) (s : Option Int) : Value := match b, s with
  | true, some m => .tuple #[.int .i64 m, .bool true]
  | _, _ => .tuple #[.int .i64 0, .bool false]
theorem net_tv (m : Int) (h : okNet m = true) (w : World) : Calls Tryz.prog 41 #[.complex .f64 (fl (redP m)) (fl (redQ m))] w fun e w' => e = .returned (.int .i64 m) ∧ w = w' :=
  net_i (redP m) (redQ m) m (Lib.hid (red_net m)) (redP_part h) (redQ_part h) w
theorem net_zero (w : World) : Calls Tryz.prog 41 #[.complex .f64 0 0] w fun e w' => e = .returned (.int .i64 0) ∧ w = w' := by
  have := net_tv 0 (by decide) w
  rwa [show redP 0 = 0 from rfl, show redQ 0 = 0 from rfl, fl_zero] at this

set_option maxRecDepth 100000 in
set_option maxHeartbeats 1600000 in
theorem zset_total {b0 : Nat} {A : Option Addr} {n cap : Nat} {Z : List J} (w : World) (h : Zs b0 w A n cap Z) (hp : AllParts Z) :
    Calls Tryz.prog 114 #[.slice A n cap] w fun e w' => e = .returned (totalV (setB (itemsOf Z)) (sumN 0 (itemsOf Z))) ∧ Ev w w' := by
  have HR := Lib.hid (zset_right w h hp.kept)
  have HA := Lib.hid (fun w1 (h1 : Ev w w1) => zset_add w1 (h.ev h1) hp)
  generalize setB (itemsOf Z) = sb at *
  have hok : ∀ m, sumN 0 (itemsOf Z) = some m → okNet m = true := fun m hm => sumN_ok _ 0 m (by decide) hm
  generalize sumN 0 (itemsOf Z) = sm at *
  clear h hp
  cases sb
  · have e : totalV false sm = .tuple #[.int .i64 0, .bool false] := by cases sm <;> rfl
    rw [e]
    clear hok
    go_enter Tryz.func114, Tryz.ntmps114
    go_wp2_with (first | ((with_reducible refine HR.out.mono ?_); rintro e w1 ⟨rfl, hE1⟩))
    go_ret2
    exact ⟨rfl, hE1⟩
  · cases sm with
    | none =>
      replace HA : Hid (∀ w1, Ev w w1 → Calls Tryz.prog 71 #[.slice A n cap] w1 fun e w' => e = .returned (.tuple #[.complex .f64 0 0, .bool false]) ∧ Ev w1 w') := HA
      clear hok
      go_enter Tryz.func114, Tryz.ntmps114
      go_wp2_with (first | ((with_reducible refine HR.out.mono ?_); rintro e w1 ⟨rfl, hE1⟩) | ((with_reducible refine (HA.out _ hE1).mono ?_); rintro e w2 ⟨rfl, hE2⟩) | ((with_reducible refine (net_zero _).mono ?_); rintro e w3 ⟨rfl, rfl⟩))
      go_ret2
      exact ⟨rfl, hE1.trans hE2⟩
    | some m =>
      replace HA : Hid (∀ w1, Ev w w1 → Calls Tryz.prog 71 #[.slice A n cap] w1 fun e w' => e = .returned (.tuple #[.complex .f64 (fl (redP m)) (fl (redQ m)), .bool true]) ∧ Ev w1 w') := HA
      have HNT := Lib.hid (fun w1 => net_tv m (hok m rfl) w1)
      clear hok
      go_enter Tryz.func114, Tryz.ntmps114
      go_wp2_with (first | ((with_reducible refine HR.out.mono ?_); rintro e w1 ⟨rfl, hE1⟩) | ((with_reducible refine (HA.out _ hE1).mono ?_); rintro e w2 ⟨rfl, hE2⟩) | ((with_reducible refine (HNT.out _).mono ?_); rintro e w3 ⟨rfl, rfl⟩))
      go_ret2
      exact ⟨rfl, hE1.trans hE2⟩

def plainS (l : List I) : Bool := (l.all fun x => decide (0 ≤ x.2.1 - x.2.2)) && setB l

set_option maxRecDepth 100000 in
set_option maxHeartbeats 1600000 in
theorem zset_plain {b0 : Nat} {A : Option Addr} {n cap : Nat} {Z : List J} (w : World) (h : Zs b0 w A n cap Z) (hp : AllParts Z) :
    Calls Tryz.prog 23 #[.slice A n cap] w fun e w' => e = .returned (.bool (plainS (itemsOf Z))) ∧ Ev w w' := by
  have hn := h.le
  have hm := h.max
  have HN := Lib.hid h.len
  have HP := Lib.hid hp
  have hst := store_complex
  have HR := Lib.hid (fun w1 (h1 : Ev w w1) => zset_right w1 (h.ev h1) hp.kept)
  clear hp
  go_enter Tryz.func23, Tryz.ntmps23
  go_wp2
  go_loopw [7] (fun i wr => ∃ k : Nat, k ≤ n ∧ i = .int .i64 (k : Int) ∧ Hid (((itemsOf (Z.take k)).all fun x => decide (0 ≤ x.2.1 - x.2.2)) = true) ∧ Ev w wr) (fun i _ => n - (intOf i).toNat)
  case atStart => exact ⟨0, Nat.zero_le _, rfl, Lib.hid rfl, Ev.refl _⟩
  case round =>
    obtain ⟨k, hk, rfl, HT, hE⟩ := hrel
    by_cases hlt : k < n
    · obtain ⟨b, off, z, rfl, hb, hb0, hx, c0, c1, hv⟩ := (h.ev hE).at hlt
      have hzp := HP.out z (List.mem_of_getElem? hx)
      have HX := Lib.hid hx
      obtain ⟨⟨A1, n1, cap1⟩, r1, p1, q1⟩ := z
      obtain ⟨m, hm1⟩ : ∃ m, p1 - q1 = m := ⟨_, rfl⟩
      have HNT := Lib.hid (fun w1 => net_i p1 q1 m (Lib.hid hm1) hzp.1 hzp.2 w1)
      have HM := Lib.hid hm1
      unfold jrow at c0
      unfold jtal at c1
      simp only at c0 c1
      clear hx hv hzp hm1
      obtain ⟨w0, hw0⟩ : ∃ w0, w0 = wr.alloc (.cells #[.slice A1 n1 cap1, .complex .f64 (fl p1) (fl q1)] 62) := ⟨_, rfl⟩
      have hE0 : Ev wr w0 := hw0 ▸ Ev.alloc _ _
      have B0 : Itembox wr.heap.size ((A1, n1, cap1), r1, p1, q1) w0 := hw0 ▸ Itembox.new ((A1, n1, cap1), r1, p1, q1) wr
      have d1 : w0.cell? ⟨wr.heap.size, 1, none⟩ = some (.complex .f64 (fl p1) (fl q1)) := B0.c1
      have i1 : (0 : Int) ≤ (k : Int) := by omega
      have i2 : (k : Int) < (n : Int) := by omega
      by_cases hneg : m < 0
      · have HF : Hid (plainS (itemsOf Z) = false) := Lib.hid (by
          unfold plainS
          rw [Bool.and_eq_false_iff]
          refine .inl (List.all_eq_false.2 ⟨(r1, p1, q1), List.mem_map.2 ⟨_, List.mem_of_getElem? HX.out, rfl⟩, ?_⟩)
          have := HM.out
          simp only [decide_eq_true_eq]
          omega)
        go_wp2_with (first | (rw [← hw0]; (with_reducible refine (HNT.out _).mono ?_); rintro e w1 ⟨rfl, rfl⟩))
        go_ret
        exact ⟨by rw [HF.out]; rfl, by first | exact hE.trans hE0 | exact hE.trans (Ev.alloc _ _)⟩
      · have HS : Hid (((itemsOf (Z.take (k + 1))).all fun x => decide (0 ≤ x.2.1 - x.2.2)) = true) := Lib.hid (by
          obtain ⟨hk2, e⟩ := List.getElem?_eq_some_iff.1 HX.out
          rw [List.take_succ_eq_append_getElem hk2, e]
          unfold itemsOf
          rw [List.map_append, List.all_append]
          have := HT.out
          unfold itemsOf at this
          rw [this]
          have := HM.out
          simp
          omega)
        go_wp2_with (first | (rw [← hw0]; (with_reducible refine (HNT.out _).mono ?_); rintro e w1 ⟨rfl, rfl⟩))
        go_roundw
        case rel => exact ⟨k + 1, by omega, by go_num, HS, by first | exact hE.trans hE0 | exact hE.trans (Ev.alloc _ _)⟩
        case measure => simp [intOf]; omega
    · obtain rfl : k = n := by omega
      have HF : Hid (plainS (itemsOf Z) = setB (itemsOf Z)) := Lib.hid (by
        have := HT.out
        rw [List.take_of_length_le (by rw [HN.out]; exact Nat.le_refl _)] at this
        unfold plainS
        rw [this]; rfl)
      go_wp2_with (first | ((with_reducible refine (HR.out _ hE).mono ?_); rintro e w1 ⟨rfl, hE1⟩))
      go_ret
      exact ⟨by rw [HF.out]; rfl, hE.trans hE1⟩

/-- The tally of a row in a list. -/
def ofV (l : List I) (r : List V) : Value := match l.find? (fun x => sameR x.1 r) with
  | some x => .complex .f64 (fl x.2.1) (fl x.2.2)
  | none => .complex .f64 0 0

set_option maxRecDepth 100000 in
set_option maxHeartbeats 1600000 in
theorem zset_of {b0 : Nat} {A : Option Addr} {n cap : Nat} {Z : List J} {A' : Option Addr} {n' cap' : Nat} {r : List V} (w : World) (h : Zs b0 w A n cap Z) (hp : AllParts Z) (hr : Vs w A' n' cap' r) :
    Calls Tryz.prog 93 #[.slice A n cap, .slice A' n' cap'] w fun e w' => e = .returned (cond (setB (itemsOf Z)) (ofV (itemsOf Z) r) (.complex .f64 0 0)) ∧ Ev w w' := by
  have hn := h.le
  have hm := h.max
  have HN := Lib.hid h.len
  have hst := store_complex
  have HR := Lib.hid (zset_right w h hp.kept)
  have HRV := Lib.hid hr
  clear hr
  generalize setB (itemsOf Z) = sb at *
  cases sb
  · go_enter Tryz.func93, Tryz.ntmps93
    go_wp2_with (first | ((with_reducible refine HR.out.mono ?_); rintro e w1 ⟨rfl, hE1⟩))
    go_ret
    exact ⟨rfl, hE1⟩
  · clear hp
    go_enter Tryz.func93, Tryz.ntmps93
    go_wp2_with (first | ((with_reducible refine HR.out.mono ?_); rintro e w1 ⟨rfl, hE1⟩))
    go_loopw [12] (fun i wr => ∃ k : Nat, k ≤ n ∧ i = .int .i64 (k : Int) ∧ Hid (∀ i x, i < k → (itemsOf Z)[i]? = some x → sameR x.1 r = false) ∧ Ev w wr) (fun i _ => n - (intOf i).toNat)
    case atStart => exact ⟨0, Nat.zero_le _, rfl, Lib.hid (fun i x hi => by omega), hE1⟩
    case round =>
      clear hE1
      obtain ⟨k, hk, rfl, HT, hE⟩ := hrel
      by_cases hlt : k < n
      · obtain ⟨b, off, z, rfl, hb, hb0, hx, c0, c1, hv⟩ := (h.ev hE).at hlt
        have HX := Lib.hid hx
        obtain ⟨⟨A1, n1, cap1⟩, r1, p1, q1⟩ := z
        unfold jrow at c0
        unfold jtal at c1
        simp only at c0 c1 hv
        obtain ⟨w0, hw0⟩ : ∃ w0, w0 = wr.alloc (.cells #[.slice A1 n1 cap1, .complex .f64 (fl p1) (fl q1)] 62) := ⟨_, rfl⟩
        have hE0 : Ev wr w0 := hw0 ▸ Ev.alloc _ _
        have B0 : Itembox wr.heap.size ((A1, n1, cap1), r1, p1, q1) w0 := hw0 ▸ Itembox.new ((A1, n1, cap1), r1, p1, q1) wr
        have d0 : w0.cell? ⟨wr.heap.size, 0, none⟩ = some (.slice A1 n1 cap1) := B0.c0
        have HS := Lib.hid (row_same w0 (hv.ev hE0) ((HRV.out.ev hE).ev hE0))
        clear hx hv
        obtain ⟨ss, hss⟩ : ∃ ss, sameR r1 r = ss := ⟨_, rfl⟩
        rw [hss] at HS
        have HSS := Lib.hid hss
        clear hss
        have HI : Hid ((itemsOf Z)[k]? = some (r1, p1, q1)) := Lib.hid (by unfold itemsOf; rw [List.getElem?_map, HX.out]; rfl)
        have i1 : (0 : Int) ≤ (k : Int) := by omega
        have i2 : (k : Int) < (n : Int) := by omega
        cases ss
        · go_wp2_with (first | (rw [← hw0]; (with_reducible refine HS.out.mono ?_); rintro e w2 ⟨rfl, hE2⟩))
          go_roundw
          case rel =>
            refine ⟨k + 1, by omega, by go_num, Lib.hid (fun i x hi hx => ?_), (hE.trans hE0).trans hE2⟩
            by_cases hik : i < k
            · exact HT.out i x hik hx
            · obtain rfl : i = k := by omega
              rw [HI.out] at hx
              obtain rfl := Option.some.inj hx
              exact HSS.out
          case measure => simp [intOf]; omega
        · have HF : Hid (ofV (itemsOf Z) r = .complex .f64 (fl p1) (fl q1)) := Lib.hid (by
            unfold ofV
            have : (itemsOf Z).find? (fun x => sameR x.1 r) = some (r1, p1, q1) := by
              obtain ⟨hk2, e⟩ := List.getElem?_eq_some_iff.1 HI.out
              rw [List.find?_eq_some_iff_getElem]
              refine ⟨HSS.out, k, hk2, e, fun j hj => ?_⟩
              rw [HT.out j _ hj (List.getElem?_eq_getElem (by omega))]; rfl
            rw [this])
          go_wp2_with (first | (rw [← hw0]; (with_reducible refine HS.out.mono ?_); rintro e w2 ⟨rfl, hE2⟩; have d1 : w2.cell? ⟨wr.heap.size, 1, none⟩ = some (.complex .f64 (fl p1) (fl q1)) := (B0.ev hE2).c1))
          go_ret
          exact ⟨by rw [HF.out]; rfl, (hE.trans hE0).trans hE2⟩
      · obtain rfl : k = n := by omega
        have HF : Hid (ofV (itemsOf Z) r = .complex .f64 0 0) := Lib.hid (by
          unfold ofV
          have : (itemsOf Z).find? (fun x => sameR x.1 r) = none := by
            rw [List.find?_eq_none]
            intro x hx
            obtain ⟨i, hi, rfl⟩ := List.getElem_of_mem hx
            rw [HT.out i _ (by rw [itemsOf_length, HN.out] at hi; exact hi) (List.getElem?_eq_getElem hi)]
            exact Bool.false_ne_true
          rw [this])
        go_wp2
        go_ret
        exact ⟨by rw [HF.out]; rfl, hE⟩

end Go.Proofs.YthpiobkghfdkkaaGreat

namespace Go.Proofs.YthpiobkghfdkkaaGreat
open Go.RowKit
set_option linter.unusedVariables false

end Go.Proofs.YthpiobkghfdkkaaGreat

namespace Go.Proofs.YthpiobkghfdkkaaGreat
open Go.RowKit
set_option linter.unusedVariables false

end Go.Proofs.YthpiobkghfdkkaaGreat

namespace Go.Proofs.YthpiobkghfdkkaaGreat
open Go.RowKit
set_option linter.unusedVariables false

theorem order_same {p p' : Int} (h : Part p) (h' : Part p') : (FloatKind.f64.format.order (fl p) (fl p') == some .eq) = decide (p = p') := by
  obtain ⟨n, rfl, hn⟩ := h.nat
  obtain ⟨m, rfl, hm⟩ := h'.nat
  rw [order_fl n m (by omega) (by omega)]
  rcases Nat.lt_trichotomy n m with h1 | h1 | h1
  · rw [Nat.compare_eq_lt.2 h1, decide_eq_false (by omega)]; rfl
  · subst h1; simp
  · rw [Nat.compare_eq_gt.2 h1, decide_eq_false (by omega)]; rfl
theorem run_neq_tal {ρ : Operand → Value} {o : Oper} {x y : Operand} {p q p' q' : Int} (ho : o.op = .binOp .neq 60 x y 60) (hx : ρ x = .complex .f64 (fl p) (fl q)) (hy : ρ y = .complex .f64 (fl p') (fl q')) (h1 : Part p) (h2 : Part q) (h3 : Part p') (h4 : Part q') (w : World) :
    (execOp ρ o).run Tryz.prog w = .ok (.value (.bool (!(decide (p = p') && decide (q = q'))))) w := by
  have o1 := order_same h1 h3
  have o2 := order_same h2 h4
  unfold execOp
  rw [ho]
  rw [← o1, ← o2]
  simp [hx, hy, go_sem]
end Go.Proofs.YthpiobkghfdkkaaGreat

namespace Go.Proofs.YthpiobkghfdkkaaGreat
open Go.RowKit
set_option linter.unusedVariables false

/-- The slice holds the items l. -/
def SetIn (l : List I) (w : World) (A : Option Addr) (n cap : Nat) : Prop := ∃ Z, Zs w.heap.size w A n cap Z ∧ itemsOf Z = l
def PartsI (l : List I) : Prop := ∀ x ∈ l, Part x.2.1 ∧ Part x.2.2
theorem SetIn.ev {l : List I} {w w' : World} {A : Option Addr} {n cap : Nat} (h : SetIn l w A n cap) (hE : Ev w w') : SetIn l w' A n cap := by
  obtain ⟨Z, hz, hl⟩ := h
  exact ⟨Z, (hz.ev hE).wide hE.size (Nat.le_refl _), hl⟩
theorem SetIn.nil_ (w : World) : SetIn [] w none 0 0 := ⟨[], Zs.nil_ (Nat.le_refl _), rfl⟩
theorem SetIn.len {l : List I} {w : World} {A : Option Addr} {n cap : Nat} (h : SetIn l w A n cap) : l.length = n := by
  obtain ⟨Z, hz, rfl⟩ := h
  rw [itemsOf_length, hz.len]
theorem PartsI.all {Z : List J} (h : PartsI (itemsOf Z)) : AllParts Z := fun z hz => h z.2 (List.mem_map.2 ⟨z, hz, rfl⟩)
theorem total_in {l : List I} {A : Option Addr} {n cap : Nat} (w : World) (h : SetIn l w A n cap) (hp : PartsI l) :
    Calls Tryz.prog 114 #[.slice A n cap] w fun e w' => e = .returned (totalV (setB l) (sumN 0 l)) ∧ Ev w w' := by
  obtain ⟨Z, hz, rfl⟩ := h
  exact zset_total w hz hp.all
theorem plain_in {l : List I} {A : Option Addr} {n cap : Nat} (w : World) (h : SetIn l w A n cap) (hp : PartsI l) :
    Calls Tryz.prog 23 #[.slice A n cap] w fun e w' => e = .returned (.bool (plainS l)) ∧ Ev w w' := by
  obtain ⟨Z, hz, rfl⟩ := h
  exact zset_plain w hz hp.all
theorem right_in {l : List I} {A : Option Addr} {n cap : Nat} (w : World) (h : SetIn l w A n cap) (hp : PartsI l) :
    Calls Tryz.prog 38 #[.slice A n cap] w fun e w' => e = .returned (.bool (setB l)) ∧ Ev w w' := by
  obtain ⟨Z, hz, rfl⟩ := h
  exact zset_right w hz hp.all.kept
theorem of_in {l : List I} {r : List V} {A A' : Option Addr} {n cap n' cap' : Nat} (w : World) (h : SetIn l w A n cap) (hp : PartsI l) (hr : Vs w A' n' cap' r) :
    Calls Tryz.prog 93 #[.slice A n cap, .slice A' n' cap'] w fun e w' => e = .returned (cond (setB l) (ofV l r) (.complex .f64 0 0)) ∧ Ev w w' := by
  obtain ⟨Z, hz, rfl⟩ := h
  exact zset_of w hz hp.all hr
def wrongI (x : I) : Bool := !(rightR x.1 && (partB x.2.1 && partB x.2.2))
/-- What Make answers for the items l: an error, or a set. -/
def makeI (l : List I) : Nat × List I := if l.any wrongI then (1, []) else match makeF l with
  | none => (27, [])
  | some s => (0, s)
/-- A row of numbers in memory. -/
def NumRow (l : List Int) (w : World) (A : Option Addr) (n cap : Nat) : Prop := Vs w A n cap (l.map numV) ∧ ∀ ad, A = some ad → ad.block < w.heap.size
theorem NumRow.ev {l : List Int} {w w' : World} {A : Option Addr} {n cap : Nat} (h : NumRow l w A n cap) (hE : Ev w w') : NumRow l w' A n cap := ⟨h.1.ev hE, fun ad e => Nat.lt_of_lt_of_le (h.2 ad e) hE.size⟩
theorem nums_row (l : List Int) (n : Nat) (hn : l.length = n) (hm : n ≤ 1000) (h0 : 0 < n) (w : World) (cs : Array Value) (hc : cs = (l.map fun x => Value.int .i64 x).toArray) :
    Calls Tryz.prog 10 #[.slice (some ⟨w.heap.size, 0, none⟩) n n] (w.alloc (.cells cs 2)) fun e w' => ∃ A m cap, e = .returned (.slice A m cap) ∧ NumRow l w' A m cap ∧ Ev w w' :=
  (nums_lit l n hn hm w cs hc).mono fun e w' ⟨A, m, cap, he, hv, hE⟩ => ⟨A, m, cap, he, ⟨hv, fun ad ea => by
    have hl := hv.len
    rw [List.length_map, hn] at hl
    obtain ⟨b, off, e2, hlt, _⟩ := hv.rd (by omega)
    rw [ea] at e2
    obtain rfl := Option.some.inj e2
    exact hlt⟩, hE⟩
/-- A literal set. -/
theorem SetIn.made (Z : List J) (n : Nat) (hn : Z.length = n) (hm : n ≤ 1000) (w : World) (cs : Array Value) (hc : cs = (Z.flatMap jcells).toArray) (hr : ∀ z ∈ Z, RowLies w.heap.size w z) (l : List I) (hl : itemsOf Z = l) :
    SetIn l (w.alloc (.cells cs 62)) (some ⟨w.heap.size, 0, none⟩) n n :=
  ⟨Z, ⟨Sl.made (enc := jcells) (fun _ => rfl) Z n hn hm w cs _ hc, fun z hz => ⟨(hr z hz).1.ev (Ev.alloc _ _), fun ad e => Nat.lt_of_lt_of_le ((hr z hz).2 ad e) (Ev.alloc w _).size⟩, by rintro ad ⟨⟩; simp, Nat.le_refl _⟩, hl⟩
end Go.Proofs.YthpiobkghfdkkaaGreat

namespace Go.Proofs.YthpiobkghfdkkaaGreat
open Go.RowKit
set_option linter.unusedVariables false

def RowsN (n0 : Nat) (S : List J) : Prop := ∀ z ∈ S, ∀ ad, z.1.1 = some ad → n0 ≤ ad.block
theorem RowsN.snoc {n0 : Nat} {S : List J} (h : RowsN n0 S) {A : Option Addr} {n c : Nat} {x : I} (hA : ∀ ad, A = some ad → n0 ≤ ad.block) : RowsN n0 (S ++ [((A, n, c), x)]) := fun z hz => by
  rcases List.mem_append.1 hz with hz | hz
  · exact h z hz
  · rw [List.mem_singleton.1 hz]
    exact hA
def MakeResN (n0 : Nat) (res : Option (List I)) (e : Ending) (w' : World) : Prop :=
  match res with
  | none => e = .returned (.tuple #[.slice none 0 0, .int .i64 27])
  | some s => ∃ A' cap' Z', e = .returned (.tuple #[.slice A' s.length cap', .int .i64 0]) ∧ Zs w'.heap.size w' A' s.length cap' Z' ∧ itemsOf Z' = s ∧ (∀ ad, A' = some ad → n0 ≤ ad.block) ∧ RowsN n0 Z'
def MakeOutN (n0 : Nat) (Z : List J) (e : Ending) (w' : World) : Prop :=
  (Z.any wrongJ = true ∧ e = .returned (.tuple #[.slice none 0 0, .int .i64 1])) ∨ (Z.any wrongJ = false ∧ MakeResN n0 (makeF (itemsOf Z)) e w')

set_option maxRecDepth 100000 in
set_option maxHeartbeats 8000000 in
theorem zset_makeN {A : Option Addr} {n cap : Nat} {Z : List J} (w : World) (h : Zs w.heap.size w A n cap Z) (hsz : n ≤ 1000000000000) (ht : TalliesAs Z) :
    Calls Tryz.prog 36 #[.slice A n cap] w fun e w' => MakeOutN w.heap.size Z e w' ∧ Ev w w' := by
  have HCF := Lib.hid (slices_containsFunc w h ht)
  cases hwr : Z.any wrongJ
  case true =>
    rw [hwr] at HCF
    have HWR := Lib.hid hwr
    clear hwr
    go_enter Tryz.func36, Tryz.ntmps36
    go_wp2_with (first | ((with_reducible refine HCF.out.mono ?_); rintro e w1 ⟨rfl, hE1⟩))
    go_ret2
    exact ⟨.inl ⟨HWR.out, rfl⟩, hE1⟩
  case false =>
    rw [hwr] at HCF
    obtain ⟨hr, hp⟩ := wrong_not hwr
    have HOR := Lib.hid (fun w1 (h1 : Ev w w1) => zset_ordered w1 ((h.ev h1).wide h1.size (Nat.le_refl _)) hsz hr)
    obtain ⟨res, hres⟩ : ∃ res, makeF (itemsOf Z) = res := ⟨_, rfl⟩
    refine Calls.mono (R := fun e w' => MakeResN w.heap.size res e w' ∧ Ev w w') ?_ (fun e w' ⟨h1, h2⟩ => ⟨.inr ⟨hwr, hres ▸ h1⟩, h2⟩)
    have HST : ∀ (w1 w2 : World) (A1 : Option Addr) (c1 : Nat) (Z1 : List J), Ev w w1 → Ev w1 w2 → Zs w2.heap.size w2 A1 n c1 Z1 → Alike keyJ Z1 Z → Rises keyJ Z1 → Making w w2.heap.size (sortF keyI (itemsOf Z)) n (.slice none 0 0) [] A1 n c1 Z1 w2 := fun w1 w2 A1 c1 Z1 h1 h2 hz ha hs =>
      ⟨Zrow.nil_ _, hz, ha.symm.right hr, fun z hz' => hp z (ha.mem hz'), by rw [sorted_items hr ha hs]; exact Option.map_id'.symm, h1.trans h2, fun g e => (by cases e), (h1.trans h2).size, by simp⟩
    have HST := Lib.hid HST
    have HRES : Hid (groupF (sortF keyI (itemsOf Z)).length (sortF keyI (itemsOf Z)) = res) := Lib.hid (by
      rw [← hres]
      unfold makeF
      refine groupF_fuel _ _ _ (Nat.le_refl _) ?_
      have := (sortF_alike (key := keyI) (itemsOf Z)).length
      rw [this]; exact Nat.le_refl _)
    generalize sortF keyI (itemsOf Z) = L at *
    clear hr hp ht hwr hres h
    go_enter Tryz.func36, Tryz.ntmps36
    go_wp2_with (first | ((with_reducible refine HCF.out.mono ?_); rintro e w1 ⟨rfl, hE1⟩) | ((with_reducible refine (HOR.out _ hE1).mono ?_); rintro e w2 ⟨A1, c1, Z1, rfl, hz1, ha1, hs1, hE2⟩; have HS1 := Lib.hid (HST.out w1 w2 A1 c1 Z1 hE1 hE2 hz1 ha1 hs1); obtain ⟨b1, hb1⟩ : ∃ b1, b1 = w2.heap.size := ⟨_, rfl⟩; rw [← hb1] at HS1; clear hz1 ha1 hs1 hb1))
    go_loopw [0, 4] (fun zv sv wr => ∃ S A1 n1 c1 Z1, zv = .slice A1 n1 c1 ∧ Hid (Making w b1 L n sv S A1 n1 c1 Z1 wr) ∧ Hid (RowsN w.heap.size S)) (fun zv _ _ => slen zv)
    case atStart => exact ⟨[], A1, n, c1, Z1, rfl, HS1, Lib.hid (fun z hz => by cases hz)⟩
    case round =>
      clear HS1 hE1 hE2
      obtain ⟨S, A1, n1, c1, Z1, rfl, HM, HRN⟩ := hrel
      obtain ⟨sv, hsv⟩ : ∃ sv, sv = u4 := ⟨_, rfl⟩
      rw [← hsv] at HM ⊢
      clear hsv
      have hn1 := HM.out.rest.le
      have hc1 := HM.out.rest.max
      have hN := HM.out.size
      by_cases k0 : 0 < n1
      · have i1 : (0 : Int) < (n1 : Int) := by omega
        have HR := Lib.hid (zset_repeats wr HM.out.rest k0 HM.out.right)
        go_upto_region 7 with (first | ((with_reducible refine HR.out.mono ?_); rintro e w3 ⟨⟨k, rfl, hk⟩, hE3⟩))
        have j1 : k ≤ n1 := by rw [← HM.out.rest.len]; exact hk.le
        have j2 : 1 ≤ k := hk.pos
        have HK := Lib.hid hk
        clear hk
        have i2 : (0 : Int) ≤ (k : Int) := by omega
        have i3 : (k : Int) ≤ (c1 : Int) := by omega
        have i4 : (k : Int) ≤ (n1 : Int) := by omega
        have hA := zset_add w3 ((HM.out.rest.ev hE3).to k j1) (fun z hz => HM.out.parts z (List.mem_of_mem_take hz))
        cases hs : sumN 0 (itemsOf (Z1.take k)) with
        | none =>
          have HF := Lib.hid (HM.out.fail k0 HK.out hs)
          rw [hs] at hA
          replace hA : Hid (Calls Tryz.prog 71 #[.slice A1 k c1] w3 fun e w' => e = .returned (.tuple #[.complex .f64 0 0, .bool false]) ∧ Ev w3 w') := Lib.hid hA
          clear hs
          go_wp2_with (first | ((with_reducible refine hA.out.mono ?_); rintro e w4 ⟨rfl, hE4⟩))
          go_ret2
          rw [← HRES.out, HF.out]
          exact ⟨rfl, (HM.out.ev.trans hE3).trans hE4⟩
        | some m =>
          have HOK := Lib.hid (sumN_ok _ 0 m (by decide) hs)
          rw [hs] at hA
          replace hA : Hid (Calls Tryz.prog 71 #[.slice A1 k c1] w3 fun e w' => e = .returned (.tuple #[.complex .f64 (fl (redP m)) (fl (redQ m)), .bool true]) ∧ Ev w3 w') := Lib.hid hA
          have HSM := Lib.hid hs
          clear hs
          obtain ⟨A3, hA3⟩ : ∃ A3, fromS 2 A1 c1 k = A3 := ⟨_, rfl⟩
          have HA3 := Lib.hid hA3
          unfold fromS at hA3
          obtain ⟨b, off, z, hAz, hb, _, hz, c0, _, hv⟩ := HM.out.rest.at k0
          rw [Nat.zero_mul, Nat.add_zero] at c0
          have HZ := Lib.hid hz
          have hrz := HM.out.right z (List.mem_of_getElem? hz)
          have hzl : 1 ≤ z.2.1.length ∧ z.2.1.length ≤ 6 := rightR_len hrz
          have hvl := hv.len
          have HV := Lib.hid hv
          clear hz hv
          rcases order_tv HOK.out with ⟨hm, o1, o2⟩ | ⟨hm, o1⟩ | ⟨hm, o1, o2⟩
          · generalize hPP : redP m = pp at *
            generalize hQQ : redQ m = qq at *
            clear c0 hAz
            go_wp2_with (first | ((with_reducible refine hA.out.mono ?_); rintro e w4 ⟨rfl, hE4⟩))
            go_roundw
            case rel =>
              have hd := HM.out.drop (HM.out.up (hE3.trans hE4)) j1 (HM.out.own.ev (hE3.trans hE4)) HM.out.high (HM.out.step k0 HK.out HSM.out HZ.out S (by rw [if_pos hm, List.append_nil])) (by omega)
              rw [HA3.out] at hd
              exact ⟨S, A3, _, _, _, rfl, Lib.hid hd, HRN⟩
            case measure => simp [slen]; omega
          · have hE34 : ∀ w4, Ev w3 w4 → Ev wr w4 := fun w4 h4 => hE3.trans h4
            have HB : Hid ((S.length + 1) * 40 ≤ 140737488355328) := Lib.hid (by omega)
            have HCL := Lib.hid (fun w5 (h5 : Ev wr w5) => row_clone w5 (HV.out.ev h5) (by omega) (by omega))
            subst hAz
            rw [Option.map_some, Addr.add_lit] at hA3
            have c0r : wr.cell? ⟨b, off, none⟩ = some (.slice z.1.1 z.1.2.1 z.1.2.2) := c0
            have HM_ := Lib.hid hm
            clear c0 hm
            have j3 : ¬ n1 = 0 := by omega
            go_wp2_with (first | ((with_reducible refine hA.out.mono ?_); rintro e w4 ⟨rfl, hE4⟩; have c4 := ((hE34 _ hE4).cell (p := ⟨b, off, none⟩) hb).trans c0r; clear c0r) | ((with_reducible refine (HCL.out _ (hE34 _ hE4)).mono ?_); rintro e w5 ⟨A', cap', rfl, hV', hN', hE5⟩; have hZo := (HM.out.own.ev ((hE34 _ hE4).trans hE5)).ev (Ev.alloc w5 (.cells #[.slice A' z.1.2.1 cap', .complex .f64 (fl (redP m)) (fl (redQ m))] 62)); have hRo := HM.out.item (hE34 _ hE4) hE5 hV' hN' (redP m) (redQ m) (.cells #[.slice A' z.1.2.1 cap', .complex .f64 (fl (redP m)) (fl (redQ m))] 62)) | (at_builtin; refine wpList_append_items rfl 41 (.tmp 28) (.tmp 36) rfl Tryz.underlying41 Tryz.infoItem sv S rfl hZo (some ⟨w5.heap.size, 0, none⟩) 1 1 [((A', z.1.2.1, cap'), (z.2.1, redP m, redQ m))] rfl (Js.one w5 ((A', z.1.2.1, cap'), (z.2.1, redP m, redQ m))) hRo HB.out ?_; intro v6 w6 hz6 hb6 hs6))
            go_roundw
            case rel =>
              have hpt := HM.out.put (((hE34 _ hE4).trans hE5).trans (Ev.alloc _ _)) hb6 hs6
              have hd := HM.out.drop hpt.1 j1 hz6 hpt.2 (HM.out.step k0 HK.out HSM.out HZ.out _ (by unfold itemsOf; rw [List.map_append, if_neg HM_.out]; rfl)) (by simp; omega)
              rw [HA3.out] at hd
              exact ⟨_, A3, _, _, _, rfl, Lib.hid hd, Lib.hid (HRN.out.snoc fun ad ea => Nat.le_trans (HM.out.ev.trans (hE34 _ hE4)).size (hN' ad ea).1)⟩
            case measure => simp [slen]; omega
          · have hE34 : ∀ w4, Ev w3 w4 → Ev wr w4 := fun w4 h4 => hE3.trans h4
            have HB : Hid ((S.length + 1) * 40 ≤ 140737488355328) := Lib.hid (by omega)
            have HCL := Lib.hid (fun w5 (h5 : Ev wr w5) => row_clone w5 (HV.out.ev h5) (by omega) (by omega))
            subst hAz
            rw [Option.map_some, Addr.add_lit] at hA3
            have c0r : wr.cell? ⟨b, off, none⟩ = some (.slice z.1.1 z.1.2.1 z.1.2.2) := c0
            have HM_ := Lib.hid hm
            clear c0 hm
            have j3 : ¬ n1 = 0 := by omega
            go_wp2_with (first | ((with_reducible refine hA.out.mono ?_); rintro e w4 ⟨rfl, hE4⟩; have c4 := ((hE34 _ hE4).cell (p := ⟨b, off, none⟩) hb).trans c0r; clear c0r) | ((with_reducible refine (HCL.out _ (hE34 _ hE4)).mono ?_); rintro e w5 ⟨A', cap', rfl, hV', hN', hE5⟩; have hZo := (HM.out.own.ev ((hE34 _ hE4).trans hE5)).ev (Ev.alloc w5 (.cells #[.slice A' z.1.2.1 cap', .complex .f64 (fl (redP m)) (fl (redQ m))] 62)); have hRo := HM.out.item (hE34 _ hE4) hE5 hV' hN' (redP m) (redQ m) (.cells #[.slice A' z.1.2.1 cap', .complex .f64 (fl (redP m)) (fl (redQ m))] 62)) | (at_builtin; refine wpList_append_items rfl 41 (.tmp 28) (.tmp 36) rfl Tryz.underlying41 Tryz.infoItem sv S rfl hZo (some ⟨w5.heap.size, 0, none⟩) 1 1 [((A', z.1.2.1, cap'), (z.2.1, redP m, redQ m))] rfl (Js.one w5 ((A', z.1.2.1, cap'), (z.2.1, redP m, redQ m))) hRo HB.out ?_; intro v6 w6 hz6 hb6 hs6))
            go_roundw
            case rel =>
              have hpt := HM.out.put (((hE34 _ hE4).trans hE5).trans (Ev.alloc _ _)) hb6 hs6
              have hd := HM.out.drop hpt.1 j1 hz6 hpt.2 (HM.out.step k0 HK.out HSM.out HZ.out _ (by unfold itemsOf; rw [List.map_append, if_neg HM_.out]; rfl)) (by simp; omega)
              rw [HA3.out] at hd
              exact ⟨_, A3, _, _, _, rfl, Lib.hid hd, Lib.hid (HRN.out.snoc fun ad ea => Nat.le_trans (HM.out.ev.trans (hE34 _ hE4)).size (hN' ad ea).1)⟩
            case measure => simp [slen]; omega
      · have i1 : ¬ (0 : Int) < (n1 : Int) := by omega
        go_wp2
        go_ret2
        have hZ1 : Z1 = [] := List.eq_nil_of_length_eq_zero (by rw [HM.out.rest.len]; omega)
        have heq := HM.out.eq
        rw [hZ1, HRES.out] at heq
        obtain ⟨A', cap', hv, hzs, hao⟩ := HM.out.own.form
        have hln : (itemsOf S).length = S.length := itemsOf_length S
        rw [heq]
        refine ⟨⟨A', cap', S, ?_, ?_, ?_, fun ad ea => Nat.le_trans HM.out.base (HM.out.high _ (hao ad ea)), HRN.out⟩, HM.out.ev⟩
        · show Ending.returned (.tuple #[sv, .int .i64 0]) = Ending.returned (.tuple #[.slice A' (itemsOf S ++ []).length cap', .int .i64 0])
          rw [List.append_nil, hln, hv]
        · show Zs wr.heap.size wr A' (itemsOf S ++ []).length cap' S
          rw [List.append_nil, hln]; exact hzs
        · exact (List.append_nil (itemsOf S)).symm

/-- A set in memory from block n0 on. -/
def SetNew (n0 : Nat) (l : List I) (w : World) (A : Option Addr) (n cap : Nat) : Prop := ∃ Z, Zs w.heap.size w A n cap Z ∧ itemsOf Z = l ∧ (∀ ad, A = some ad → n0 ≤ ad.block) ∧ RowsN n0 Z
theorem SetNew.in_ {n0 : Nat} {l : List I} {w : World} {A : Option Addr} {n cap : Nat} (h : SetNew n0 l w A n cap) : SetIn l w A n cap := by
  obtain ⟨Z, h1, h2, _⟩ := h
  exact ⟨Z, h1, h2⟩
theorem SetNew.ev {n0 : Nat} {l : List I} {w w' : World} {A : Option Addr} {n cap : Nat} (h : SetNew n0 l w A n cap) (hE : Ev w w') : SetNew n0 l w' A n cap := by
  obtain ⟨Z, h1, h2, h3⟩ := h
  exact ⟨Z, (h1.ev hE).wide hE.size (Nat.le_refl _), h2, h3⟩
theorem SetNew.but {n0 : Nat} {l : List I} {w w' : World} {A : Option Addr} {n cap : Nat} {K : List Nat} (h : SetNew n0 l w A n cap) (hb : But K w w') (hK : ∀ k ∈ K, k < n0) : SetNew n0 l w' A n cap := by
  obtain ⟨Z, h1, h2, h3, h4⟩ := h
  refine ⟨Z, ⟨h1.js.but hb fun ad ea hm => ?_, fun z hz => ⟨(h1.rows z hz).1.but hb fun ad ea hm => ?_, fun ad ea => Nat.lt_of_lt_of_le ((h1.rows z hz).2 ad ea) hb.size⟩, fun ad ea => Nat.lt_of_lt_of_le (h1.low ad ea) hb.size, Nat.le_refl _⟩, h2, h3, h4⟩
  · have := hK _ hm
    have := h3 ad ea
    omega
  · have := hK _ hm
    have := h4 z hz ad ea
    omega
theorem SetNew.less {n0 n1 : Nat} {l : List I} {w : World} {A : Option Addr} {n cap : Nat} (h : SetNew n0 l w A n cap) (hn : n1 ≤ n0) : SetNew n1 l w A n cap := by
  obtain ⟨Z, h1, h2, h3, h4⟩ := h
  exact ⟨Z, h1, h2, fun ad ea => Nat.le_trans hn (h3 ad ea), fun z hz ad ea => Nat.le_trans hn (h4 z hz ad ea)⟩
theorem SetNew.nil_ (n0 : Nat) (w : World) : SetNew n0 [] w none 0 0 := ⟨[], Zs.nil_ (Nat.le_refl _), rfl, (fun ad ea => by cases ea), (fun z hz => by cases hz)⟩
def SetErrN (n0 : Nat) (res : Nat × List I) (e : Ending) (w' : World) : Prop := ∃ A' cap', e = .returned (.tuple #[.slice A' res.2.length cap', .int .i64 (res.1 : Int)]) ∧ SetNew n0 res.2 w' A' res.2.length cap'
theorem make_inN {l : List I} {A : Option Addr} {n cap : Nat} (w : World) (h : SetIn l w A n cap) (hn : n ≤ 1000000000000) (ht : ∀ x ∈ l, TallyAs x.2.1 x.2.2) :
    Calls Tryz.prog 36 #[.slice A n cap] w fun e w' => SetErrN w.heap.size (makeI l) e w' ∧ Ev w w' := by
  obtain ⟨Z, hz, rfl⟩ := h
  refine (zset_makeN w hz hn (fun z hz' => ht z.2 (List.mem_map.2 ⟨z, hz', rfl⟩))).mono ?_
  rintro e w' ⟨hm, hE⟩
  refine ⟨?_, hE⟩
  have hw : (itemsOf Z).any wrongI = Z.any wrongJ := by unfold itemsOf; rw [List.any_map]; rfl
  unfold makeI
  rw [hw]
  rcases hm with ⟨h1, rfl⟩ | ⟨h1, h2⟩
  · rw [if_pos h1]
    exact ⟨none, 0, rfl, SetNew.nil_ _ _⟩
  · rw [if_neg (by rw [h1]; exact Bool.false_ne_true)]
    cases hmf : makeF (itemsOf Z) with
    | none =>
      rw [hmf] at h2
      exact ⟨none, 0, h2, SetNew.nil_ _ _⟩
    | some s =>
      rw [hmf] at h2
      obtain ⟨A', cap', Z', he, hz', hi, h3, h4⟩ := h2
      exact ⟨A', cap', he, Z', hz', hi, h3, h4⟩
end Go.Proofs.YthpiobkghfdkkaaGreat

namespace Go.Proofs.YthpiobkghfdkkaaGreat
open Go.RowKit
set_option linter.unusedVariables false

abbrev r1 : List V := [1].map numV
abbrev r2 : List V := [2].map numV
theorem fl_1 : fl 1 = 4607182418800017408 := by decide +kernel
end Go.Proofs.YthpiobkghfdkkaaGreat
