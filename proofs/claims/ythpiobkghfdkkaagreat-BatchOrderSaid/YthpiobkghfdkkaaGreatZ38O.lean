/-
  Texts that belong together: Chapter 11 in plain words: groups of rows, what is reckoned of them. Small rows of t and u, in plain words. The book's Tame and One; zset.Same of the same set. The book's Tame of any change.
-/
import Derived.Test.YthpiobkghfdkkaaGreatZ21O
import Derived.Test.YthpiobkghfdkkaaGreatZ33O
import Derived.Test.YthpiobkghfdkkaaGreatZ12O
import Derived.Test.YthpiobkghfdkkaaGreatZ22O
import Derived.Test.YthpiobkghfdkkaaGreatZ24O
namespace Go.Proofs.YthpiobkghfdkkaaGreat
open Go.RowKit
set_option linter.unusedVariables false

def nullV : V := (0, 0, ⟨#[]⟩)
end Go.Proofs.YthpiobkghfdkkaaGreat

namespace Go.Proofs.YthpiobkghfdkkaaGreat
open Go.RowKit
set_option linter.unusedVariables false

def smallN (x : Int) : Int := x.tmod 4
def cut2 (s : ByteArray) : ByteArray := if 2 < s.size then s.extract 0 2 else s
theorem cut2_size (s : ByteArray) : (cut2 s).size ≤ 2 := by
  unfold cut2
  split
  · rw [ByteArray.size_extract]; omega
  · omega
/-- A row of u, of t, as the book makes it of any row. -/
def tameU (r : List V) : List V := [numV (smallN (r.getD 0 nullV).2.1), numV (smallN (r.getD 1 nullV).2.1)]
def tameT (r : List V) : List V := [numV (smallN (r.getD 0 nullV).2.1), numV (smallN (r.getD 1 nullV).2.1), (2, 0, cut2 (r.getD 1 nullV).2.2)]
theorem tameU_right (r : List V) : rightR (tameU r) = true := by unfold tameU rightR okR rightVV numV rightV; simp
theorem tameT_right (r : List V) : rightR (tameT r) = true := by
  have h := cut2_size (r.getD 1 nullV).2.2
  unfold tameT
  generalize cut2 (r.getD 1 nullV).2.2 = s at h ⊢
  unfold rightR okR rightVV numV rightV
  simp
  omega
end Go.Proofs.YthpiobkghfdkkaaGreat

namespace Go.Proofs.YthpiobkghfdkkaaGreat
open Go.RowKit
set_option linter.unusedVariables false

theorem Tryz.sizeChange : (Tryz.prog.info? 25).map (·.size) = some 3 := by kernel_rfl
end Go.Proofs.YthpiobkghfdkkaaGreat

namespace Go.Proofs.YthpiobkghfdkkaaGreat
open Go.RowKit
set_option linter.unusedVariables false

theorem tmod_nat (n : Nat) : ((n : Int).tmod 2) = ((n % 2 : Nat) : Int) := by
  rw [Int.tmod_eq_emod_of_nonneg (by omega)]
  omega
theorem bx_chgA (rem : Bool) (w : World) (tab : ByteArray) (A : Option Addr) (n cap : Nat) : ∃ w0, (w.alloc (.cells #[.string tab, .slice A n cap, .bool rem] 25)).alloc (.cells #[.string ⟨#[]⟩, .slice none 0 0, .bool false] 25) = w0 ∧ Ev w w0 ∧ w0.heap.size = w.heap.size + 2 ∧ Bx 25 w.heap.size #[.string tab, .slice A n cap, .bool rem] w0 ∧ Bx 25 (w.heap.size + 1) #[.string ⟨#[]⟩, .slice none 0 0, .bool false] w0 := by
  have hB := Bx.new 25 #[.string ⟨#[]⟩, .slice none 0 0, .bool false] (w.alloc (.cells #[.string tab, .slice A n cap, .bool rem] 25))
  rw [show (w.alloc (.cells #[.string tab, .slice A n cap, .bool rem] 25)).heap.size = w.heap.size + 1 by simp] at hB
  exact ⟨_, rfl, (Ev.alloc w _).trans (Ev.alloc _ _), by simp, (Bx.new 25 #[.string tab, .slice A n cap, .bool rem] w).ev (Ev.alloc _ _), hB⟩
/-- What Tame gives. -/
def TameOutA (rem : Bool) (tab : ByteArray) (r : List V) (w : World) (e : Ending) (w' : World) : Prop := ∃ B k c, e = .returned (.agg #[.string tab, .slice B k c, .bool rem]) ∧ Vs w' B k c r ∧ (∀ ad, B = some ad → w.heap.size ≤ ad.block ∧ ad.block < w'.heap.size) ∧ Ev w w'

set_option maxRecDepth 100000 in
set_option maxHeartbeats 8000000 in
theorem tameA_u (rem : Bool) (tab : ByteArray) (htab : tab.size % 2 = 1) (r : List V) (A : Option Addr) (n cap : Nat) (w : World) (h : Vs w A n cap r) :
    Calls Tryz.prog 19 #[.agg #[.string tab, .slice A n cap, .bool rem]] w (TameOutA rem ⟨#[117]⟩ (tameU r) w) := by
  obtain ⟨w0, hw0, hE0, hs0, hB, hT⟩ := bx_chgA rem w tab A n cap
  have HS0 := Lib.hid hs0
  have HT := Lib.hid hT
  have HB := Lib.hid hB
  have HE0 := Lib.hid hE0
  have HNM := Lib.hid (fun (x : Int) (w1 : World) => keep_num x w1)
  have HZ := Lib.hid htab
  obtain ⟨⟨p0, p1, p2⟩, q0, q1, q2⟩ := hB.three
  have hcl := h.le
  have hcm := h.max
  have hl := h.len
  have HV := Lib.hid (h.ev hE0)
  have hl8 : tab.size % 2 = 1 := htab
  have hmod : ((tab.size : Int).tmod 2) = 1 := by rw [tmod_nat, htab]; rfl
  unfold TameOutA
  rcases r with _ | ⟨x, _ | ⟨y, r'⟩⟩
  · simp at hl
    subst hl
    go_enter Tryz.func19, Tryz.ntmps19
    have HROW : Hid ((tameU []) = [numV 0, numV 0]) := Lib.hid (rfl)
    go_upto_region 15 with fail
    obtain ⟨w1, hw1, hB1, hT1, hb1⟩ : ∃ w1, w0.setCell ⟨w.heap.size, 0, none⟩ (.string ⟨#[117]⟩) = w1 ∧ Bx 25 w.heap.size #[.string ⟨#[117]⟩, .slice A 0 cap, .bool rem] w1 ∧ Bx 25 (w.heap.size + 1) #[.string ⟨#[]⟩, .slice none 0 0, .bool false] w1 ∧ But [w.heap.size] w0 w1 := ⟨_, rfl, by have h9 := HB.out.set 0 (.string ⟨#[117]⟩); simpa using h9, HT.out.but (K := [w.heap.size]) (But.setCell ⟨w.heap.size, 0, none⟩ _ (by simp)) (by simp), But.setCell ⟨w.heap.size, 0, none⟩ _ (by simp)⟩
    rw [hw1]
    have HB1 := Lib.hid hB1
    have HT1 := Lib.hid hT1
    have HBU := Lib.hid hb1
    clear p0 p1 p2 q0 q1 q2 hw1 hB1 hT1 hb1 hw0
    obtain ⟨⟨p0, p1, p2⟩, q0, q1, q2⟩ := HB1.out.three
    go_upto_region 16 with (first
      | (have EP := EQ1; (with_reducible refine (HNM.out _ _).mono ?_); rintro e wn ⟨rfl, hE⟩; have E9 := Lib.hid (EP.out.trans (hE.trans (Ev.alloc _ (.cells #[.int .i64 1, .int .i64 0, .string ⟨#[]⟩, .int .i64 1, .int .i64 0, .string ⟨#[]⟩] 32)))); have G9 := Lib.hid (EP.out.trans hE); clear hE p0 p1 p2 q0 q1 q2; obtain ⟨⟨p0, p1, p2⟩, q0, q1, q2⟩ := (HB1.out.ev E9.out).three)
      | ((with_reducible refine (HNM.out _ _).mono ?_); rintro e wk ⟨rfl, hE⟩; have EQ1 := Lib.hid hE; clear hE))
    obtain ⟨w5, hw5, hB5, hT5, hb5, hV5⟩ : ∃ w5, (wn.alloc (.cells #[.int .i64 1, .int .i64 0, .string ⟨#[]⟩, .int .i64 1, .int .i64 0, .string ⟨#[]⟩] 32)).setCell ⟨w.heap.size, 1, none⟩ (.slice (some ⟨wn.heap.size, 0, none⟩) 2 2) = w5 ∧ Bx 25 w.heap.size #[.string ⟨#[117]⟩, .slice (some ⟨wn.heap.size, 0, none⟩) 2 2, .bool rem] w5 ∧ Bx 25 (w.heap.size + 1) #[.string ⟨#[]⟩, .slice none 0 0, .bool false] w5 ∧ But [w.heap.size] (wn.alloc (.cells #[.int .i64 1, .int .i64 0, .string ⟨#[]⟩, .int .i64 1, .int .i64 0, .string ⟨#[]⟩] 32)) w5 ∧ Vs w5 (some ⟨wn.heap.size, 0, none⟩) 2 2 (tameU []) := ⟨_, rfl, by have h9 := (HB1.out.ev E9.out).set 1 (.slice (some ⟨wn.heap.size, 0, none⟩) 2 2); simpa using h9, (HT1.out.ev E9.out).but (K := [w.heap.size]) (But.setCell ⟨w.heap.size, 1, none⟩ _ (by simp)) (by simp), But.setCell ⟨w.heap.size, 1, none⟩ _ (by simp), (by rw [HROW.out]; exact (Vs.made [numV 0, numV 0] 2 rfl (by decide) wn _ rfl).but (K := [w.heap.size]) (But.setCell ⟨w.heap.size, 1, none⟩ _ (by simp)) (fun ad ea => by cases ea; have h9 := HB1.out.lt; have h8 := G9.out.size; simp; omega))⟩
    rw [hw5]
    have hlt9 : w.heap.size + 1 < wn.heap.size := Nat.lt_of_lt_of_le HT1.out.lt G9.out.size
    have HB5 := Lib.hid hB5
    have HT5 := Lib.hid hT5
    have HV5 := Lib.hid hV5
    have HB9 := Lib.hid hb5
    clear p0 p1 p2 q0 q1 q2 hw5 hB5 hT5 hV5 hb5
    obtain ⟨⟨p0, p1, p2⟩, q0, q1, q2⟩ := HB5.out.three
    obtain ⟨⟨t0, t1, t2⟩, z0, z1, z2⟩ := HT5.out.three
    go_wp2
    (try simp only [Exit.inBlock, Exit.then])
    rw [set3_fold]
    refine bodyPost_ret (results_cell1 rfl _ _ _ _ _ rfl (HT5.out.set3 _ _ _) Tryz.underlying25 rfl Tryz.sizeChange) rfl ?_
    have hsz5 := HB9.out.size
    refine ⟨_, _, _, rfl, HV5.out.but (set3_but _ _ _ _ _) (fun ad ea => by cases ea; simp; omega), fun ad ea => by (cases ea; have h7 := (set3_but (w.heap.size + 1) (.string ⟨#[117]⟩) (.slice (some ⟨wn.heap.size, 0, none⟩) 2 2) (.bool rem) w5).size; simp at hsz5 ⊢; omega), ?_⟩
    exact (((HE0.out.box HBU.out (Nat.le_refl _)).trans E9.out).box HB9.out (Nat.le_refl _)).box (set3_but _ _ _ _ _) (Nat.le_succ _)
  · simp at hl
    subst hl
    obtain ⟨b, off, rfl, hb, hc⟩ := HV.out.rd (by omega)
    have c0 := hc 0 x rfl 1 _ rfl
    simp only [Nat.zero_mul, Nat.add_zero] at c0
    clear hc
    go_enter Tryz.func19, Tryz.ntmps19
    have HROW : Hid ((tameU [x]) = [numV (x.2.1.tmod 4), numV 0]) := Lib.hid (rfl)
    go_upto_region 15 with fail
    obtain ⟨w1, hw1, hB1, hT1, hb1⟩ : ∃ w1, w0.setCell ⟨w.heap.size, 0, none⟩ (.string ⟨#[117]⟩) = w1 ∧ Bx 25 w.heap.size #[.string ⟨#[117]⟩, .slice (some ⟨b, off, none⟩) 1 cap, .bool rem] w1 ∧ Bx 25 (w.heap.size + 1) #[.string ⟨#[]⟩, .slice none 0 0, .bool false] w1 ∧ But [w.heap.size] w0 w1 := ⟨_, rfl, by have h9 := HB.out.set 0 (.string ⟨#[117]⟩); simpa using h9, HT.out.but (K := [w.heap.size]) (But.setCell ⟨w.heap.size, 0, none⟩ _ (by simp)) (by simp), But.setCell ⟨w.heap.size, 0, none⟩ _ (by simp)⟩
    rw [hw1]
    have HB1 := Lib.hid hB1
    have HT1 := Lib.hid hT1
    have HBU := Lib.hid hb1
    clear p0 p1 p2 q0 q1 q2 hw1 hB1 hT1 hb1 hw0
    obtain ⟨⟨p0, p1, p2⟩, q0, q1, q2⟩ := HB1.out.three
    go_upto_region 16 with (first
      | (have EP := EQ1; (with_reducible refine (HNM.out _ _).mono ?_); rintro e wn ⟨rfl, hE⟩; have E9 := Lib.hid (EP.out.trans (hE.trans (Ev.alloc _ (.cells #[.int .i64 1, .int .i64 (x.2.1.tmod 4), .string ⟨#[]⟩, .int .i64 1, .int .i64 0, .string ⟨#[]⟩] 32)))); have G9 := Lib.hid (EP.out.trans hE); clear hE p0 p1 p2 q0 q1 q2; obtain ⟨⟨p0, p1, p2⟩, q0, q1, q2⟩ := (HB1.out.ev E9.out).three)
      | ((with_reducible refine (HNM.out _ _).mono ?_); rintro e wk ⟨rfl, hE⟩; have EQ1 := Lib.hid hE; clear hE))
    obtain ⟨w5, hw5, hB5, hT5, hb5, hV5⟩ : ∃ w5, (wn.alloc (.cells #[.int .i64 1, .int .i64 (x.2.1.tmod 4), .string ⟨#[]⟩, .int .i64 1, .int .i64 0, .string ⟨#[]⟩] 32)).setCell ⟨w.heap.size, 1, none⟩ (.slice (some ⟨wn.heap.size, 0, none⟩) 2 2) = w5 ∧ Bx 25 w.heap.size #[.string ⟨#[117]⟩, .slice (some ⟨wn.heap.size, 0, none⟩) 2 2, .bool rem] w5 ∧ Bx 25 (w.heap.size + 1) #[.string ⟨#[]⟩, .slice none 0 0, .bool false] w5 ∧ But [w.heap.size] (wn.alloc (.cells #[.int .i64 1, .int .i64 (x.2.1.tmod 4), .string ⟨#[]⟩, .int .i64 1, .int .i64 0, .string ⟨#[]⟩] 32)) w5 ∧ Vs w5 (some ⟨wn.heap.size, 0, none⟩) 2 2 (tameU [x]) := ⟨_, rfl, by have h9 := (HB1.out.ev E9.out).set 1 (.slice (some ⟨wn.heap.size, 0, none⟩) 2 2); simpa using h9, (HT1.out.ev E9.out).but (K := [w.heap.size]) (But.setCell ⟨w.heap.size, 1, none⟩ _ (by simp)) (by simp), But.setCell ⟨w.heap.size, 1, none⟩ _ (by simp), (by rw [HROW.out]; exact (Vs.made [numV (x.2.1.tmod 4), numV 0] 2 rfl (by decide) wn _ rfl).but (K := [w.heap.size]) (But.setCell ⟨w.heap.size, 1, none⟩ _ (by simp)) (fun ad ea => by cases ea; have h9 := HB1.out.lt; have h8 := G9.out.size; simp; omega))⟩
    rw [hw5]
    have hlt9 : w.heap.size + 1 < wn.heap.size := Nat.lt_of_lt_of_le HT1.out.lt G9.out.size
    have HB5 := Lib.hid hB5
    have HT5 := Lib.hid hT5
    have HV5 := Lib.hid hV5
    have HB9 := Lib.hid hb5
    clear p0 p1 p2 q0 q1 q2 hw5 hB5 hT5 hV5 hb5
    obtain ⟨⟨p0, p1, p2⟩, q0, q1, q2⟩ := HB5.out.three
    obtain ⟨⟨t0, t1, t2⟩, z0, z1, z2⟩ := HT5.out.three
    go_wp2
    (try simp only [Exit.inBlock, Exit.then])
    rw [set3_fold]
    refine bodyPost_ret (results_cell1 rfl _ _ _ _ _ rfl (HT5.out.set3 _ _ _) Tryz.underlying25 rfl Tryz.sizeChange) rfl ?_
    have hsz5 := HB9.out.size
    refine ⟨_, _, _, rfl, HV5.out.but (set3_but _ _ _ _ _) (fun ad ea => by cases ea; simp; omega), fun ad ea => by (cases ea; have h7 := (set3_but (w.heap.size + 1) (.string ⟨#[117]⟩) (.slice (some ⟨wn.heap.size, 0, none⟩) 2 2) (.bool rem) w5).size; simp at hsz5 ⊢; omega), ?_⟩
    exact (((HE0.out.box HBU.out (Nat.le_refl _)).trans E9.out).box HB9.out (Nat.le_refl _)).box (set3_but _ _ _ _ _) (Nat.le_succ _)
  · obtain ⟨b, off, rfl, hb, hc⟩ := HV.out.rd (by simp at hl; omega)
    have c0 := hc 0 x rfl 1 _ rfl
    have c1 := hc 1 y rfl 1 _ rfl
    have c2 := hc 1 y rfl 2 _ rfl
    simp only [Nat.zero_mul, Nat.add_zero, Nat.one_mul] at c0 c1 c2
    have i0 : (0 : Int) < (n : Int) := by simp at hl; omega
    have i1 : (1 : Int) < (n : Int) := by simp at hl; omega
    clear hc
    by_cases hcut : 2 < y.2.2.size
    · have hcut' : (2 : Int) < (y.2.2.size : Int) := by omega
      have HCU : Hid (cut2 y.2.2 = y.2.2.extract 0 2) := Lib.hid (by unfold cut2; rw [if_pos hcut])
      go_enter Tryz.func19, Tryz.ntmps19
      have HROW : Hid ((tameU (x :: y :: r')) = [numV (x.2.1.tmod 4), numV (y.2.1.tmod 4)]) := Lib.hid (rfl)
      go_upto_region 15 with fail
      obtain ⟨w1, hw1, hB1, hT1, hb1⟩ : ∃ w1, w0.setCell ⟨w.heap.size, 0, none⟩ (.string ⟨#[117]⟩) = w1 ∧ Bx 25 w.heap.size #[.string ⟨#[117]⟩, .slice (some ⟨b, off, none⟩) n cap, .bool rem] w1 ∧ Bx 25 (w.heap.size + 1) #[.string ⟨#[]⟩, .slice none 0 0, .bool false] w1 ∧ But [w.heap.size] w0 w1 := ⟨_, rfl, by have h9 := HB.out.set 0 (.string ⟨#[117]⟩); simpa using h9, HT.out.but (K := [w.heap.size]) (But.setCell ⟨w.heap.size, 0, none⟩ _ (by simp)) (by simp), But.setCell ⟨w.heap.size, 0, none⟩ _ (by simp)⟩
      rw [hw1]
      have HB1 := Lib.hid hB1
      have HT1 := Lib.hid hT1
      have HBU := Lib.hid hb1
      clear p0 p1 p2 q0 q1 q2 hw1 hB1 hT1 hb1 hw0
      obtain ⟨⟨p0, p1, p2⟩, q0, q1, q2⟩ := HB1.out.three
      go_upto_region 16 with (first
        | (have EP := EQ1; (with_reducible refine (HNM.out _ _).mono ?_); rintro e wn ⟨rfl, hE⟩; have E9 := Lib.hid (EP.out.trans (hE.trans (Ev.alloc _ (.cells #[.int .i64 1, .int .i64 (x.2.1.tmod 4), .string ⟨#[]⟩, .int .i64 1, .int .i64 (y.2.1.tmod 4), .string ⟨#[]⟩] 32)))); have G9 := Lib.hid (EP.out.trans hE); clear hE p0 p1 p2 q0 q1 q2; obtain ⟨⟨p0, p1, p2⟩, q0, q1, q2⟩ := (HB1.out.ev E9.out).three)
        | ((with_reducible refine (HNM.out _ _).mono ?_); rintro e wk ⟨rfl, hE⟩; have EQ1 := Lib.hid hE; clear hE))
      obtain ⟨w5, hw5, hB5, hT5, hb5, hV5⟩ : ∃ w5, (wn.alloc (.cells #[.int .i64 1, .int .i64 (x.2.1.tmod 4), .string ⟨#[]⟩, .int .i64 1, .int .i64 (y.2.1.tmod 4), .string ⟨#[]⟩] 32)).setCell ⟨w.heap.size, 1, none⟩ (.slice (some ⟨wn.heap.size, 0, none⟩) 2 2) = w5 ∧ Bx 25 w.heap.size #[.string ⟨#[117]⟩, .slice (some ⟨wn.heap.size, 0, none⟩) 2 2, .bool rem] w5 ∧ Bx 25 (w.heap.size + 1) #[.string ⟨#[]⟩, .slice none 0 0, .bool false] w5 ∧ But [w.heap.size] (wn.alloc (.cells #[.int .i64 1, .int .i64 (x.2.1.tmod 4), .string ⟨#[]⟩, .int .i64 1, .int .i64 (y.2.1.tmod 4), .string ⟨#[]⟩] 32)) w5 ∧ Vs w5 (some ⟨wn.heap.size, 0, none⟩) 2 2 (tameU (x :: y :: r')) := ⟨_, rfl, by have h9 := (HB1.out.ev E9.out).set 1 (.slice (some ⟨wn.heap.size, 0, none⟩) 2 2); simpa using h9, (HT1.out.ev E9.out).but (K := [w.heap.size]) (But.setCell ⟨w.heap.size, 1, none⟩ _ (by simp)) (by simp), But.setCell ⟨w.heap.size, 1, none⟩ _ (by simp), (by rw [HROW.out]; exact (Vs.made [numV (x.2.1.tmod 4), numV (y.2.1.tmod 4)] 2 rfl (by decide) wn _ rfl).but (K := [w.heap.size]) (But.setCell ⟨w.heap.size, 1, none⟩ _ (by simp)) (fun ad ea => by cases ea; have h9 := HB1.out.lt; have h8 := G9.out.size; simp; omega))⟩
      rw [hw5]
      have hlt9 : w.heap.size + 1 < wn.heap.size := Nat.lt_of_lt_of_le HT1.out.lt G9.out.size
      have HB5 := Lib.hid hB5
      have HT5 := Lib.hid hT5
      have HV5 := Lib.hid hV5
      have HB9 := Lib.hid hb5
      clear p0 p1 p2 q0 q1 q2 hw5 hB5 hT5 hV5 hb5
      obtain ⟨⟨p0, p1, p2⟩, q0, q1, q2⟩ := HB5.out.three
      obtain ⟨⟨t0, t1, t2⟩, z0, z1, z2⟩ := HT5.out.three
      go_wp2
      (try simp only [Exit.inBlock, Exit.then])
      rw [set3_fold]
      refine bodyPost_ret (results_cell1 rfl _ _ _ _ _ rfl (HT5.out.set3 _ _ _) Tryz.underlying25 rfl Tryz.sizeChange) rfl ?_
      have hsz5 := HB9.out.size
      refine ⟨_, _, _, rfl, HV5.out.but (set3_but _ _ _ _ _) (fun ad ea => by cases ea; simp; omega), fun ad ea => by (cases ea; have h7 := (set3_but (w.heap.size + 1) (.string ⟨#[117]⟩) (.slice (some ⟨wn.heap.size, 0, none⟩) 2 2) (.bool rem) w5).size; simp at hsz5 ⊢; omega), ?_⟩
      exact (((HE0.out.box HBU.out (Nat.le_refl _)).trans E9.out).box HB9.out (Nat.le_refl _)).box (set3_but _ _ _ _ _) (Nat.le_succ _)
    · have hcut' : ¬ (2 : Int) < (y.2.2.size : Int) := by omega
      have HCU : Hid (cut2 y.2.2 = y.2.2) := Lib.hid (by unfold cut2; rw [if_neg hcut])
      go_enter Tryz.func19, Tryz.ntmps19
      have HROW : Hid ((tameU (x :: y :: r')) = [numV (x.2.1.tmod 4), numV (y.2.1.tmod 4)]) := Lib.hid (rfl)
      go_upto_region 15 with fail
      obtain ⟨w1, hw1, hB1, hT1, hb1⟩ : ∃ w1, w0.setCell ⟨w.heap.size, 0, none⟩ (.string ⟨#[117]⟩) = w1 ∧ Bx 25 w.heap.size #[.string ⟨#[117]⟩, .slice (some ⟨b, off, none⟩) n cap, .bool rem] w1 ∧ Bx 25 (w.heap.size + 1) #[.string ⟨#[]⟩, .slice none 0 0, .bool false] w1 ∧ But [w.heap.size] w0 w1 := ⟨_, rfl, by have h9 := HB.out.set 0 (.string ⟨#[117]⟩); simpa using h9, HT.out.but (K := [w.heap.size]) (But.setCell ⟨w.heap.size, 0, none⟩ _ (by simp)) (by simp), But.setCell ⟨w.heap.size, 0, none⟩ _ (by simp)⟩
      rw [hw1]
      have HB1 := Lib.hid hB1
      have HT1 := Lib.hid hT1
      have HBU := Lib.hid hb1
      clear p0 p1 p2 q0 q1 q2 hw1 hB1 hT1 hb1 hw0
      obtain ⟨⟨p0, p1, p2⟩, q0, q1, q2⟩ := HB1.out.three
      go_upto_region 16 with (first
        | (have EP := EQ1; (with_reducible refine (HNM.out _ _).mono ?_); rintro e wn ⟨rfl, hE⟩; have E9 := Lib.hid (EP.out.trans (hE.trans (Ev.alloc _ (.cells #[.int .i64 1, .int .i64 (x.2.1.tmod 4), .string ⟨#[]⟩, .int .i64 1, .int .i64 (y.2.1.tmod 4), .string ⟨#[]⟩] 32)))); have G9 := Lib.hid (EP.out.trans hE); clear hE p0 p1 p2 q0 q1 q2; obtain ⟨⟨p0, p1, p2⟩, q0, q1, q2⟩ := (HB1.out.ev E9.out).three)
        | ((with_reducible refine (HNM.out _ _).mono ?_); rintro e wk ⟨rfl, hE⟩; have EQ1 := Lib.hid hE; clear hE))
      obtain ⟨w5, hw5, hB5, hT5, hb5, hV5⟩ : ∃ w5, (wn.alloc (.cells #[.int .i64 1, .int .i64 (x.2.1.tmod 4), .string ⟨#[]⟩, .int .i64 1, .int .i64 (y.2.1.tmod 4), .string ⟨#[]⟩] 32)).setCell ⟨w.heap.size, 1, none⟩ (.slice (some ⟨wn.heap.size, 0, none⟩) 2 2) = w5 ∧ Bx 25 w.heap.size #[.string ⟨#[117]⟩, .slice (some ⟨wn.heap.size, 0, none⟩) 2 2, .bool rem] w5 ∧ Bx 25 (w.heap.size + 1) #[.string ⟨#[]⟩, .slice none 0 0, .bool false] w5 ∧ But [w.heap.size] (wn.alloc (.cells #[.int .i64 1, .int .i64 (x.2.1.tmod 4), .string ⟨#[]⟩, .int .i64 1, .int .i64 (y.2.1.tmod 4), .string ⟨#[]⟩] 32)) w5 ∧ Vs w5 (some ⟨wn.heap.size, 0, none⟩) 2 2 (tameU (x :: y :: r')) := ⟨_, rfl, by have h9 := (HB1.out.ev E9.out).set 1 (.slice (some ⟨wn.heap.size, 0, none⟩) 2 2); simpa using h9, (HT1.out.ev E9.out).but (K := [w.heap.size]) (But.setCell ⟨w.heap.size, 1, none⟩ _ (by simp)) (by simp), But.setCell ⟨w.heap.size, 1, none⟩ _ (by simp), (by rw [HROW.out]; exact (Vs.made [numV (x.2.1.tmod 4), numV (y.2.1.tmod 4)] 2 rfl (by decide) wn _ rfl).but (K := [w.heap.size]) (But.setCell ⟨w.heap.size, 1, none⟩ _ (by simp)) (fun ad ea => by cases ea; have h9 := HB1.out.lt; have h8 := G9.out.size; simp; omega))⟩
      rw [hw5]
      have hlt9 : w.heap.size + 1 < wn.heap.size := Nat.lt_of_lt_of_le HT1.out.lt G9.out.size
      have HB5 := Lib.hid hB5
      have HT5 := Lib.hid hT5
      have HV5 := Lib.hid hV5
      have HB9 := Lib.hid hb5
      clear p0 p1 p2 q0 q1 q2 hw5 hB5 hT5 hV5 hb5
      obtain ⟨⟨p0, p1, p2⟩, q0, q1, q2⟩ := HB5.out.three
      obtain ⟨⟨t0, t1, t2⟩, z0, z1, z2⟩ := HT5.out.three
      go_wp2
      (try simp only [Exit.inBlock, Exit.then])
      rw [set3_fold]
      refine bodyPost_ret (results_cell1 rfl _ _ _ _ _ rfl (HT5.out.set3 _ _ _) Tryz.underlying25 rfl Tryz.sizeChange) rfl ?_
      have hsz5 := HB9.out.size
      refine ⟨_, _, _, rfl, HV5.out.but (set3_but _ _ _ _ _) (fun ad ea => by cases ea; simp; omega), fun ad ea => by (cases ea; have h7 := (set3_but (w.heap.size + 1) (.string ⟨#[117]⟩) (.slice (some ⟨wn.heap.size, 0, none⟩) 2 2) (.bool rem) w5).size; simp at hsz5 ⊢; omega), ?_⟩
      exact (((HE0.out.box HBU.out (Nat.le_refl _)).trans E9.out).box HB9.out (Nat.le_refl _)).box (set3_but _ _ _ _ _) (Nat.le_succ _)

set_option maxRecDepth 100000 in
set_option maxHeartbeats 8000000 in
theorem tameA_t (rem : Bool) (tab : ByteArray) (htab : tab.size % 2 = 0) (r : List V) (A : Option Addr) (n cap : Nat) (w : World) (h : Vs w A n cap r) :
    Calls Tryz.prog 19 #[.agg #[.string tab, .slice A n cap, .bool rem]] w (TameOutA rem ⟨#[116]⟩ (tameT r) w) := by
  obtain ⟨w0, hw0, hE0, hs0, hB, hT⟩ := bx_chgA rem w tab A n cap
  have HS0 := Lib.hid hs0
  have HT := Lib.hid hT
  have HB := Lib.hid hB
  have HE0 := Lib.hid hE0
  have HNM := Lib.hid (fun (x : Int) (w1 : World) => keep_num x w1)
  have HST := Lib.hid (fun (x : ByteArray) (w1 : World) => keep_str x w1)
  have HZ := Lib.hid htab
  obtain ⟨⟨p0, p1, p2⟩, q0, q1, q2⟩ := hB.three
  have hcl := h.le
  have hcm := h.max
  have hl := h.len
  have HV := Lib.hid (h.ev hE0)
  have hl8 : tab.size % 2 = 0 := htab
  have hmod : ((tab.size : Int).tmod 2) = 0 := by rw [tmod_nat, htab]; rfl
  unfold TameOutA
  rcases r with _ | ⟨x, _ | ⟨y, r'⟩⟩
  · simp at hl
    subst hl
    go_enter Tryz.func19, Tryz.ntmps19
    have HROW : Hid ((tameT []) = [numV 0, numV 0, (2, 0, ⟨#[]⟩)]) := Lib.hid (rfl)
    go_upto_region 13 with fail
    obtain ⟨w1, hw1, hB1, hT1, hb1⟩ : ∃ w1, w0.setCell ⟨w.heap.size, 0, none⟩ (.string ⟨#[116]⟩) = w1 ∧ Bx 25 w.heap.size #[.string ⟨#[116]⟩, .slice A 0 cap, .bool rem] w1 ∧ Bx 25 (w.heap.size + 1) #[.string ⟨#[]⟩, .slice none 0 0, .bool false] w1 ∧ But [w.heap.size] w0 w1 := ⟨_, rfl, by have h9 := HB.out.set 0 (.string ⟨#[116]⟩); simpa using h9, HT.out.but (K := [w.heap.size]) (But.setCell ⟨w.heap.size, 0, none⟩ _ (by simp)) (by simp), But.setCell ⟨w.heap.size, 0, none⟩ _ (by simp)⟩
    rw [hw1]
    have HB1 := Lib.hid hB1
    have HT1 := Lib.hid hT1
    have HBU := Lib.hid hb1
    clear p0 p1 p2 q0 q1 q2 hw1 hB1 hT1 hb1 hw0
    obtain ⟨⟨p0, p1, p2⟩, q0, q1, q2⟩ := HB1.out.three
    go_upto_region 16 with (first
      | ((with_reducible refine (HST.out _ _).mono ?_); rintro e wn ⟨rfl, hE⟩; have EP := EQ; have E9 := Lib.hid (EP.out.trans (hE.trans (Ev.alloc _ (.cells #[.int .i64 1, .int .i64 0, .string ⟨#[]⟩, .int .i64 1, .int .i64 0, .string ⟨#[]⟩, .int .i64 2, .int .i64 0, .string ⟨#[]⟩] 32)))); have G9 := Lib.hid (EP.out.trans hE); clear hE p0 p1 p2 q0 q1 q2; obtain ⟨⟨p0, p1, p2⟩, q0, q1, q2⟩ := (HB1.out.ev E9.out).three)
      | (have hh := EQ1; (with_reducible refine (HNM.out _ _).mono ?_); rintro e wm ⟨rfl, hE⟩; have EQ := Lib.hid (EQ1.out.trans hE); clear hE)
      | ((with_reducible refine (HNM.out _ _).mono ?_); rintro e wk ⟨rfl, hE⟩; have EQ1 := Lib.hid hE; clear hE))
    obtain ⟨w5, hw5, hB5, hT5, hb5, hV5⟩ : ∃ w5, (wn.alloc (.cells #[.int .i64 1, .int .i64 0, .string ⟨#[]⟩, .int .i64 1, .int .i64 0, .string ⟨#[]⟩, .int .i64 2, .int .i64 0, .string ⟨#[]⟩] 32)).setCell ⟨w.heap.size, 1, none⟩ (.slice (some ⟨wn.heap.size, 0, none⟩) 3 3) = w5 ∧ Bx 25 w.heap.size #[.string ⟨#[116]⟩, .slice (some ⟨wn.heap.size, 0, none⟩) 3 3, .bool rem] w5 ∧ Bx 25 (w.heap.size + 1) #[.string ⟨#[]⟩, .slice none 0 0, .bool false] w5 ∧ But [w.heap.size] (wn.alloc (.cells #[.int .i64 1, .int .i64 0, .string ⟨#[]⟩, .int .i64 1, .int .i64 0, .string ⟨#[]⟩, .int .i64 2, .int .i64 0, .string ⟨#[]⟩] 32)) w5 ∧ Vs w5 (some ⟨wn.heap.size, 0, none⟩) 3 3 (tameT []) := ⟨_, rfl, by have h9 := (HB1.out.ev E9.out).set 1 (.slice (some ⟨wn.heap.size, 0, none⟩) 3 3); simpa using h9, (HT1.out.ev E9.out).but (K := [w.heap.size]) (But.setCell ⟨w.heap.size, 1, none⟩ _ (by simp)) (by simp), But.setCell ⟨w.heap.size, 1, none⟩ _ (by simp), (by rw [HROW.out]; exact (Vs.made [numV 0, numV 0, (2, 0, ⟨#[]⟩)] 3 rfl (by decide) wn _ rfl).but (K := [w.heap.size]) (But.setCell ⟨w.heap.size, 1, none⟩ _ (by simp)) (fun ad ea => by cases ea; have h9 := HB1.out.lt; have h8 := G9.out.size; simp; omega))⟩
    rw [hw5]
    have hlt9 : w.heap.size + 1 < wn.heap.size := Nat.lt_of_lt_of_le HT1.out.lt G9.out.size
    have HB5 := Lib.hid hB5
    have HT5 := Lib.hid hT5
    have HV5 := Lib.hid hV5
    have HB9 := Lib.hid hb5
    clear p0 p1 p2 q0 q1 q2 hw5 hB5 hT5 hV5 hb5
    obtain ⟨⟨p0, p1, p2⟩, q0, q1, q2⟩ := HB5.out.three
    obtain ⟨⟨t0, t1, t2⟩, z0, z1, z2⟩ := HT5.out.three
    go_wp2
    (try simp only [Exit.inBlock, Exit.then])
    rw [set3_fold]
    refine bodyPost_ret (results_cell1 rfl _ _ _ _ _ rfl (HT5.out.set3 _ _ _) Tryz.underlying25 rfl Tryz.sizeChange) rfl ?_
    have hsz5 := HB9.out.size
    refine ⟨_, _, _, rfl, HV5.out.but (set3_but _ _ _ _ _) (fun ad ea => by cases ea; simp; omega), fun ad ea => by (cases ea; have h7 := (set3_but (w.heap.size + 1) (.string ⟨#[116]⟩) (.slice (some ⟨wn.heap.size, 0, none⟩) 3 3) (.bool rem) w5).size; simp at hsz5 ⊢; omega), ?_⟩
    exact (((HE0.out.box HBU.out (Nat.le_refl _)).trans E9.out).box HB9.out (Nat.le_refl _)).box (set3_but _ _ _ _ _) (Nat.le_succ _)
  · simp at hl
    subst hl
    obtain ⟨b, off, rfl, hb, hc⟩ := HV.out.rd (by omega)
    have c0 := hc 0 x rfl 1 _ rfl
    simp only [Nat.zero_mul, Nat.add_zero] at c0
    clear hc
    go_enter Tryz.func19, Tryz.ntmps19
    have HROW : Hid ((tameT [x]) = [numV (x.2.1.tmod 4), numV 0, (2, 0, ⟨#[]⟩)]) := Lib.hid (rfl)
    go_upto_region 13 with fail
    obtain ⟨w1, hw1, hB1, hT1, hb1⟩ : ∃ w1, w0.setCell ⟨w.heap.size, 0, none⟩ (.string ⟨#[116]⟩) = w1 ∧ Bx 25 w.heap.size #[.string ⟨#[116]⟩, .slice (some ⟨b, off, none⟩) 1 cap, .bool rem] w1 ∧ Bx 25 (w.heap.size + 1) #[.string ⟨#[]⟩, .slice none 0 0, .bool false] w1 ∧ But [w.heap.size] w0 w1 := ⟨_, rfl, by have h9 := HB.out.set 0 (.string ⟨#[116]⟩); simpa using h9, HT.out.but (K := [w.heap.size]) (But.setCell ⟨w.heap.size, 0, none⟩ _ (by simp)) (by simp), But.setCell ⟨w.heap.size, 0, none⟩ _ (by simp)⟩
    rw [hw1]
    have HB1 := Lib.hid hB1
    have HT1 := Lib.hid hT1
    have HBU := Lib.hid hb1
    clear p0 p1 p2 q0 q1 q2 hw1 hB1 hT1 hb1 hw0
    obtain ⟨⟨p0, p1, p2⟩, q0, q1, q2⟩ := HB1.out.three
    go_upto_region 16 with (first
      | ((with_reducible refine (HST.out _ _).mono ?_); rintro e wn ⟨rfl, hE⟩; have EP := EQ; have E9 := Lib.hid (EP.out.trans (hE.trans (Ev.alloc _ (.cells #[.int .i64 1, .int .i64 (x.2.1.tmod 4), .string ⟨#[]⟩, .int .i64 1, .int .i64 0, .string ⟨#[]⟩, .int .i64 2, .int .i64 0, .string ⟨#[]⟩] 32)))); have G9 := Lib.hid (EP.out.trans hE); clear hE p0 p1 p2 q0 q1 q2; obtain ⟨⟨p0, p1, p2⟩, q0, q1, q2⟩ := (HB1.out.ev E9.out).three)
      | (have hh := EQ1; (with_reducible refine (HNM.out _ _).mono ?_); rintro e wm ⟨rfl, hE⟩; have EQ := Lib.hid (EQ1.out.trans hE); clear hE)
      | ((with_reducible refine (HNM.out _ _).mono ?_); rintro e wk ⟨rfl, hE⟩; have EQ1 := Lib.hid hE; clear hE))
    obtain ⟨w5, hw5, hB5, hT5, hb5, hV5⟩ : ∃ w5, (wn.alloc (.cells #[.int .i64 1, .int .i64 (x.2.1.tmod 4), .string ⟨#[]⟩, .int .i64 1, .int .i64 0, .string ⟨#[]⟩, .int .i64 2, .int .i64 0, .string ⟨#[]⟩] 32)).setCell ⟨w.heap.size, 1, none⟩ (.slice (some ⟨wn.heap.size, 0, none⟩) 3 3) = w5 ∧ Bx 25 w.heap.size #[.string ⟨#[116]⟩, .slice (some ⟨wn.heap.size, 0, none⟩) 3 3, .bool rem] w5 ∧ Bx 25 (w.heap.size + 1) #[.string ⟨#[]⟩, .slice none 0 0, .bool false] w5 ∧ But [w.heap.size] (wn.alloc (.cells #[.int .i64 1, .int .i64 (x.2.1.tmod 4), .string ⟨#[]⟩, .int .i64 1, .int .i64 0, .string ⟨#[]⟩, .int .i64 2, .int .i64 0, .string ⟨#[]⟩] 32)) w5 ∧ Vs w5 (some ⟨wn.heap.size, 0, none⟩) 3 3 (tameT [x]) := ⟨_, rfl, by have h9 := (HB1.out.ev E9.out).set 1 (.slice (some ⟨wn.heap.size, 0, none⟩) 3 3); simpa using h9, (HT1.out.ev E9.out).but (K := [w.heap.size]) (But.setCell ⟨w.heap.size, 1, none⟩ _ (by simp)) (by simp), But.setCell ⟨w.heap.size, 1, none⟩ _ (by simp), (by rw [HROW.out]; exact (Vs.made [numV (x.2.1.tmod 4), numV 0, (2, 0, ⟨#[]⟩)] 3 rfl (by decide) wn _ rfl).but (K := [w.heap.size]) (But.setCell ⟨w.heap.size, 1, none⟩ _ (by simp)) (fun ad ea => by cases ea; have h9 := HB1.out.lt; have h8 := G9.out.size; simp; omega))⟩
    rw [hw5]
    have hlt9 : w.heap.size + 1 < wn.heap.size := Nat.lt_of_lt_of_le HT1.out.lt G9.out.size
    have HB5 := Lib.hid hB5
    have HT5 := Lib.hid hT5
    have HV5 := Lib.hid hV5
    have HB9 := Lib.hid hb5
    clear p0 p1 p2 q0 q1 q2 hw5 hB5 hT5 hV5 hb5
    obtain ⟨⟨p0, p1, p2⟩, q0, q1, q2⟩ := HB5.out.three
    obtain ⟨⟨t0, t1, t2⟩, z0, z1, z2⟩ := HT5.out.three
    go_wp2
    (try simp only [Exit.inBlock, Exit.then])
    rw [set3_fold]
    refine bodyPost_ret (results_cell1 rfl _ _ _ _ _ rfl (HT5.out.set3 _ _ _) Tryz.underlying25 rfl Tryz.sizeChange) rfl ?_
    have hsz5 := HB9.out.size
    refine ⟨_, _, _, rfl, HV5.out.but (set3_but _ _ _ _ _) (fun ad ea => by cases ea; simp; omega), fun ad ea => by (cases ea; have h7 := (set3_but (w.heap.size + 1) (.string ⟨#[116]⟩) (.slice (some ⟨wn.heap.size, 0, none⟩) 3 3) (.bool rem) w5).size; simp at hsz5 ⊢; omega), ?_⟩
    exact (((HE0.out.box HBU.out (Nat.le_refl _)).trans E9.out).box HB9.out (Nat.le_refl _)).box (set3_but _ _ _ _ _) (Nat.le_succ _)
  · obtain ⟨b, off, rfl, hb, hc⟩ := HV.out.rd (by simp at hl; omega)
    have c0 := hc 0 x rfl 1 _ rfl
    have c1 := hc 1 y rfl 1 _ rfl
    have c2 := hc 1 y rfl 2 _ rfl
    simp only [Nat.zero_mul, Nat.add_zero, Nat.one_mul] at c0 c1 c2
    have i0 : (0 : Int) < (n : Int) := by simp at hl; omega
    have i1 : (1 : Int) < (n : Int) := by simp at hl; omega
    clear hc
    by_cases hcut : 2 < y.2.2.size
    · have hcut' : (2 : Int) < (y.2.2.size : Int) := by omega
      have HCU : Hid (cut2 y.2.2 = y.2.2.extract 0 2) := Lib.hid (by unfold cut2; rw [if_pos hcut])
      go_enter Tryz.func19, Tryz.ntmps19
      have HROW : Hid ((tameT (x :: y :: r')) = [numV (x.2.1.tmod 4), numV (y.2.1.tmod 4), (2, 0, (y.2.2.extract 0 2))]) := Lib.hid (by unfold tameT; rw [show ((x :: y :: r').getD 1 nullV) = y from rfl, HCU.out]; rfl)
      go_upto_region 13 with fail
      obtain ⟨w1, hw1, hB1, hT1, hb1⟩ : ∃ w1, w0.setCell ⟨w.heap.size, 0, none⟩ (.string ⟨#[116]⟩) = w1 ∧ Bx 25 w.heap.size #[.string ⟨#[116]⟩, .slice (some ⟨b, off, none⟩) n cap, .bool rem] w1 ∧ Bx 25 (w.heap.size + 1) #[.string ⟨#[]⟩, .slice none 0 0, .bool false] w1 ∧ But [w.heap.size] w0 w1 := ⟨_, rfl, by have h9 := HB.out.set 0 (.string ⟨#[116]⟩); simpa using h9, HT.out.but (K := [w.heap.size]) (But.setCell ⟨w.heap.size, 0, none⟩ _ (by simp)) (by simp), But.setCell ⟨w.heap.size, 0, none⟩ _ (by simp)⟩
      rw [hw1]
      have HB1 := Lib.hid hB1
      have HT1 := Lib.hid hT1
      have HBU := Lib.hid hb1
      clear p0 p1 p2 q0 q1 q2 hw1 hB1 hT1 hb1 hw0
      obtain ⟨⟨p0, p1, p2⟩, q0, q1, q2⟩ := HB1.out.three
      go_upto_region 16 with (first
        | ((with_reducible refine (HST.out _ _).mono ?_); rintro e wn ⟨rfl, hE⟩; have EP := EQ; have E9 := Lib.hid (EP.out.trans (hE.trans (Ev.alloc _ (.cells #[.int .i64 1, .int .i64 (x.2.1.tmod 4), .string ⟨#[]⟩, .int .i64 1, .int .i64 (y.2.1.tmod 4), .string ⟨#[]⟩, .int .i64 2, .int .i64 0, .string (y.2.2.extract 0 2)] 32)))); have G9 := Lib.hid (EP.out.trans hE); clear hE p0 p1 p2 q0 q1 q2; obtain ⟨⟨p0, p1, p2⟩, q0, q1, q2⟩ := (HB1.out.ev E9.out).three)
        | (have hh := EQ1; (with_reducible refine (HNM.out _ _).mono ?_); rintro e wm ⟨rfl, hE⟩; have EQ := Lib.hid (EQ1.out.trans hE); clear hE)
        | ((with_reducible refine (HNM.out _ _).mono ?_); rintro e wk ⟨rfl, hE⟩; have EQ1 := Lib.hid hE; clear hE))
      obtain ⟨w5, hw5, hB5, hT5, hb5, hV5⟩ : ∃ w5, (wn.alloc (.cells #[.int .i64 1, .int .i64 (x.2.1.tmod 4), .string ⟨#[]⟩, .int .i64 1, .int .i64 (y.2.1.tmod 4), .string ⟨#[]⟩, .int .i64 2, .int .i64 0, .string (y.2.2.extract 0 2)] 32)).setCell ⟨w.heap.size, 1, none⟩ (.slice (some ⟨wn.heap.size, 0, none⟩) 3 3) = w5 ∧ Bx 25 w.heap.size #[.string ⟨#[116]⟩, .slice (some ⟨wn.heap.size, 0, none⟩) 3 3, .bool rem] w5 ∧ Bx 25 (w.heap.size + 1) #[.string ⟨#[]⟩, .slice none 0 0, .bool false] w5 ∧ But [w.heap.size] (wn.alloc (.cells #[.int .i64 1, .int .i64 (x.2.1.tmod 4), .string ⟨#[]⟩, .int .i64 1, .int .i64 (y.2.1.tmod 4), .string ⟨#[]⟩, .int .i64 2, .int .i64 0, .string (y.2.2.extract 0 2)] 32)) w5 ∧ Vs w5 (some ⟨wn.heap.size, 0, none⟩) 3 3 (tameT (x :: y :: r')) := ⟨_, rfl, by have h9 := (HB1.out.ev E9.out).set 1 (.slice (some ⟨wn.heap.size, 0, none⟩) 3 3); simpa using h9, (HT1.out.ev E9.out).but (K := [w.heap.size]) (But.setCell ⟨w.heap.size, 1, none⟩ _ (by simp)) (by simp), But.setCell ⟨w.heap.size, 1, none⟩ _ (by simp), (by rw [HROW.out]; exact (Vs.made [numV (x.2.1.tmod 4), numV (y.2.1.tmod 4), (2, 0, (y.2.2.extract 0 2))] 3 rfl (by decide) wn _ rfl).but (K := [w.heap.size]) (But.setCell ⟨w.heap.size, 1, none⟩ _ (by simp)) (fun ad ea => by cases ea; have h9 := HB1.out.lt; have h8 := G9.out.size; simp; omega))⟩
      rw [hw5]
      have hlt9 : w.heap.size + 1 < wn.heap.size := Nat.lt_of_lt_of_le HT1.out.lt G9.out.size
      have HB5 := Lib.hid hB5
      have HT5 := Lib.hid hT5
      have HV5 := Lib.hid hV5
      have HB9 := Lib.hid hb5
      clear p0 p1 p2 q0 q1 q2 hw5 hB5 hT5 hV5 hb5
      obtain ⟨⟨p0, p1, p2⟩, q0, q1, q2⟩ := HB5.out.three
      obtain ⟨⟨t0, t1, t2⟩, z0, z1, z2⟩ := HT5.out.three
      go_wp2
      (try simp only [Exit.inBlock, Exit.then])
      rw [set3_fold]
      refine bodyPost_ret (results_cell1 rfl _ _ _ _ _ rfl (HT5.out.set3 _ _ _) Tryz.underlying25 rfl Tryz.sizeChange) rfl ?_
      have hsz5 := HB9.out.size
      refine ⟨_, _, _, rfl, HV5.out.but (set3_but _ _ _ _ _) (fun ad ea => by cases ea; simp; omega), fun ad ea => by (cases ea; have h7 := (set3_but (w.heap.size + 1) (.string ⟨#[116]⟩) (.slice (some ⟨wn.heap.size, 0, none⟩) 3 3) (.bool rem) w5).size; simp at hsz5 ⊢; omega), ?_⟩
      exact (((HE0.out.box HBU.out (Nat.le_refl _)).trans E9.out).box HB9.out (Nat.le_refl _)).box (set3_but _ _ _ _ _) (Nat.le_succ _)
    · have hcut' : ¬ (2 : Int) < (y.2.2.size : Int) := by omega
      have HCU : Hid (cut2 y.2.2 = y.2.2) := Lib.hid (by unfold cut2; rw [if_neg hcut])
      go_enter Tryz.func19, Tryz.ntmps19
      have HROW : Hid ((tameT (x :: y :: r')) = [numV (x.2.1.tmod 4), numV (y.2.1.tmod 4), (2, 0, y.2.2)]) := Lib.hid (by unfold tameT; rw [show ((x :: y :: r').getD 1 nullV) = y from rfl, HCU.out]; rfl)
      go_upto_region 13 with fail
      obtain ⟨w1, hw1, hB1, hT1, hb1⟩ : ∃ w1, w0.setCell ⟨w.heap.size, 0, none⟩ (.string ⟨#[116]⟩) = w1 ∧ Bx 25 w.heap.size #[.string ⟨#[116]⟩, .slice (some ⟨b, off, none⟩) n cap, .bool rem] w1 ∧ Bx 25 (w.heap.size + 1) #[.string ⟨#[]⟩, .slice none 0 0, .bool false] w1 ∧ But [w.heap.size] w0 w1 := ⟨_, rfl, by have h9 := HB.out.set 0 (.string ⟨#[116]⟩); simpa using h9, HT.out.but (K := [w.heap.size]) (But.setCell ⟨w.heap.size, 0, none⟩ _ (by simp)) (by simp), But.setCell ⟨w.heap.size, 0, none⟩ _ (by simp)⟩
      rw [hw1]
      have HB1 := Lib.hid hB1
      have HT1 := Lib.hid hT1
      have HBU := Lib.hid hb1
      clear p0 p1 p2 q0 q1 q2 hw1 hB1 hT1 hb1 hw0
      obtain ⟨⟨p0, p1, p2⟩, q0, q1, q2⟩ := HB1.out.three
      go_upto_region 16 with (first
        | ((with_reducible refine (HST.out _ _).mono ?_); rintro e wn ⟨rfl, hE⟩; have EP := EQ; have E9 := Lib.hid (EP.out.trans (hE.trans (Ev.alloc _ (.cells #[.int .i64 1, .int .i64 (x.2.1.tmod 4), .string ⟨#[]⟩, .int .i64 1, .int .i64 (y.2.1.tmod 4), .string ⟨#[]⟩, .int .i64 2, .int .i64 0, .string y.2.2] 32)))); have G9 := Lib.hid (EP.out.trans hE); clear hE p0 p1 p2 q0 q1 q2; obtain ⟨⟨p0, p1, p2⟩, q0, q1, q2⟩ := (HB1.out.ev E9.out).three)
        | (have hh := EQ1; (with_reducible refine (HNM.out _ _).mono ?_); rintro e wm ⟨rfl, hE⟩; have EQ := Lib.hid (EQ1.out.trans hE); clear hE)
        | ((with_reducible refine (HNM.out _ _).mono ?_); rintro e wk ⟨rfl, hE⟩; have EQ1 := Lib.hid hE; clear hE))
      obtain ⟨w5, hw5, hB5, hT5, hb5, hV5⟩ : ∃ w5, (wn.alloc (.cells #[.int .i64 1, .int .i64 (x.2.1.tmod 4), .string ⟨#[]⟩, .int .i64 1, .int .i64 (y.2.1.tmod 4), .string ⟨#[]⟩, .int .i64 2, .int .i64 0, .string y.2.2] 32)).setCell ⟨w.heap.size, 1, none⟩ (.slice (some ⟨wn.heap.size, 0, none⟩) 3 3) = w5 ∧ Bx 25 w.heap.size #[.string ⟨#[116]⟩, .slice (some ⟨wn.heap.size, 0, none⟩) 3 3, .bool rem] w5 ∧ Bx 25 (w.heap.size + 1) #[.string ⟨#[]⟩, .slice none 0 0, .bool false] w5 ∧ But [w.heap.size] (wn.alloc (.cells #[.int .i64 1, .int .i64 (x.2.1.tmod 4), .string ⟨#[]⟩, .int .i64 1, .int .i64 (y.2.1.tmod 4), .string ⟨#[]⟩, .int .i64 2, .int .i64 0, .string y.2.2] 32)) w5 ∧ Vs w5 (some ⟨wn.heap.size, 0, none⟩) 3 3 (tameT (x :: y :: r')) := ⟨_, rfl, by have h9 := (HB1.out.ev E9.out).set 1 (.slice (some ⟨wn.heap.size, 0, none⟩) 3 3); simpa using h9, (HT1.out.ev E9.out).but (K := [w.heap.size]) (But.setCell ⟨w.heap.size, 1, none⟩ _ (by simp)) (by simp), But.setCell ⟨w.heap.size, 1, none⟩ _ (by simp), (by rw [HROW.out]; exact (Vs.made [numV (x.2.1.tmod 4), numV (y.2.1.tmod 4), (2, 0, y.2.2)] 3 rfl (by decide) wn _ rfl).but (K := [w.heap.size]) (But.setCell ⟨w.heap.size, 1, none⟩ _ (by simp)) (fun ad ea => by cases ea; have h9 := HB1.out.lt; have h8 := G9.out.size; simp; omega))⟩
      rw [hw5]
      have hlt9 : w.heap.size + 1 < wn.heap.size := Nat.lt_of_lt_of_le HT1.out.lt G9.out.size
      have HB5 := Lib.hid hB5
      have HT5 := Lib.hid hT5
      have HV5 := Lib.hid hV5
      have HB9 := Lib.hid hb5
      clear p0 p1 p2 q0 q1 q2 hw5 hB5 hT5 hV5 hb5
      obtain ⟨⟨p0, p1, p2⟩, q0, q1, q2⟩ := HB5.out.three
      obtain ⟨⟨t0, t1, t2⟩, z0, z1, z2⟩ := HT5.out.three
      go_wp2
      (try simp only [Exit.inBlock, Exit.then])
      rw [set3_fold]
      refine bodyPost_ret (results_cell1 rfl _ _ _ _ _ rfl (HT5.out.set3 _ _ _) Tryz.underlying25 rfl Tryz.sizeChange) rfl ?_
      have hsz5 := HB9.out.size
      refine ⟨_, _, _, rfl, HV5.out.but (set3_but _ _ _ _ _) (fun ad ea => by cases ea; simp; omega), fun ad ea => by (cases ea; have h7 := (set3_but (w.heap.size + 1) (.string ⟨#[116]⟩) (.slice (some ⟨wn.heap.size, 0, none⟩) 3 3) (.bool rem) w5).size; simp at hsz5 ⊢; omega), ?_⟩
      exact (((HE0.out.box HBU.out (Nat.le_refl _)).trans E9.out).box HB9.out (Nat.le_refl _)).box (set3_but _ _ _ _ _) (Nat.le_succ _)
end Go.Proofs.YthpiobkghfdkkaaGreat
