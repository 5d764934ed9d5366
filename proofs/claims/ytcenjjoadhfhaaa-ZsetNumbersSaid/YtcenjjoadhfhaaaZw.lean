/-
  The contracts of package zset: read, Decode.
-/
import Derived.Test.YtcenjjoadhfhaaaZt
import Derived.Test.YtcenjjoadhfhaaaRowP
import Derived.Test.YtcenjjoadhfhaaaReader
namespace Go.Proofs.Ytcenjjoadhfhaaa
open Go.RowKit
set_option linter.unusedVariables false

/-- The parts of the tally that is read as this Net. -/
def netParts (n : Int) : Int × Int := if n = -9223372036854775808 then (0, 0) else (redP n, redQ n)
theorem zset_ofNet_any (n : Int) (h1 : -9223372036854775808 ≤ n) (h2 : n ≤ 9223372036854775807) (w : World) :
    Calls Try.prog 39 #[.int .i64 n] w fun e w' => e = .returned (.complex .f64 (fl (netParts n).1) (fl (netParts n).2)) ∧ w = w' := by
  unfold netParts
  by_cases h0 : n = -9223372036854775808
  · subst h0
    have e1 : wrap64 9223372036854775808 = -9223372036854775808 := by unfold wrap64; omega
    go_enter Try.func39, Try.ntmps39
    go_wp2_with ((with_reducible refine (of_any _ _ _).mono ?_); rintro e w' ⟨rfl, rfl⟩)
    all_goals
      go_ret
      exact ⟨ret_fl (by decide) (by decide), rfl⟩
  · rw [if_neg h0]
    exact zset_ofNet n (by omega) h2 w

/-- What is read of m items, behind those that were read. -/
def rdItems (L : List UInt8) : Nat → List I → Nat → Nat → List I × Nat × Nat
  | 0, acc, e, q => (acc, e, q)
  | m + 1, acc, e, q =>
    if (rdRow L e q).1.isEmpty then (acc, (rdRow L e q).2)
    else rdItems L m (acc ++ [((rdRow L e q).1, netParts (wrap64 (leVal (rdTake L (rdRow L e q).2.1 (rdRow L e q).2.2 8).1 : Int)))]) (rdTake L (rdRow L e q).2.1 (rdRow L e q).2.2 8).2.1 (rdTake L (rdRow L e q).2.1 (rdRow L e q).2.2 8).2.2
def rdSet (L : List UInt8) (e q : Nat) : List I × Nat × Nat := rdItems L (leVal (rdTake L e q 2).1) [] (rdTake L e q 2).2.1 (rdTake L e q 2).2.2

structure Reading (w : World) (p : Nat) (A : Option Addr) (n cap : Nat) (L : List UInt8) (RR : List I × Nat × Nat) (m k : Nat) (sv : Value) (Z : List J) (e q : Nat) (wr : World) : Prop where
  own : Zrow wr sv Z
  high : ∀ g, sv.ownBlock = some g → w.heap.size ≤ g
  rows : ∀ z ∈ Z, ∀ ad, z.1.1 = some ad → w.heap.size ≤ ad.block
  rd : Rd p A n cap L e q wr
  but : But [p] w wr
  eq : RR = rdItems L (m - k) (itemsOf Z) e q
  len : Z.length = k
  lt : p < w.heap.size
  apart : ∀ ad, A = some ad → ad.block < w.heap.size
theorem Reading.turn {w : World} {p : Nat} {A : Option Addr} {n cap : Nat} {L : List UInt8} {RR : List I × Nat × Nat} {m k : Nat} {sv : Value} {Z : List J} {e q : Nat} {wr w' : World} (h : Reading w p A n cap L RR m k sv Z e q wr) (hB : But [p] wr w') : Zrow w' sv Z :=
  h.own.but hB (fun g hg hm => by have := h.high g hg; have := h.lt; simp at hm; omega) (fun z hz ad e hm => by have := h.rows z hz ad e; have := h.lt; simp at hm; omega)
theorem Reading.item {w : World} {p : Nat} {A : Option Addr} {n cap : Nat} {L : List UInt8} {RR : List I × Nat × Nat} {m k : Nat} {sv : Value} {Z : List J} {e q : Nat} {wr w2 w3 : World} (h : Reading w p A n cap L RR m k sv Z e q wr) (hB2 : But [p] wr w2) (hB3 : But [p] w2 w3) {A1 : Option Addr} {cap1 : Nat} {r : List V} (hV : Vrow w2 (.slice A1 r.length cap1) r)
    (hvg : ∀ g, (Value.slice A1 r.length cap1).ownBlock = some g → wr.heap.size ≤ g) (hVs : Vs w2 A1 r.length cap1 r) (hVo : ∀ ad, A1 = some ad → (Value.slice A1 r.length cap1).ownBlock = some ad.block) (pp qq : Int) (o : Obj) :
    ∀ x ∈ [(((A1, r.length, cap1), (r, pp, qq)) : J)], Vs (w3.alloc o) x.1.1 x.1.2.1 x.1.2.2 x.2.1 ∧ ∀ ad, x.1.1 = some ad → ad.block < (w3.alloc o).heap.size ∧ sv.ownBlock ≠ some ad.block := fun x hx => by
  rw [List.mem_singleton.1 hx]
  have hlt : p < wr.heap.size := Nat.lt_of_lt_of_le h.lt h.but.size
  refine ⟨(hVs.but hB3 fun ad ea hm => ?_).ev (Ev.alloc _ _), fun ad ea => ⟨?_, fun e' => ?_⟩⟩
  · have := hvg _ (hVo ad ea); simp at hm; omega
  · have := hV.lt (hVo ad ea); have := hB3.size; have := (Ev.alloc w3 o).size; omega
  · have h1 := h.own.lt e'; have h2 := hvg _ (hVo ad ea); omega
theorem Reading.next {w : World} {p : Nat} {A : Option Addr} {n cap : Nat} {L : List UInt8} {RR : List I × Nat × Nat} {m k : Nat} {sv : Value} {Z : List J} {e q : Nat} {wr w1 w2 w6 : World} (h : Reading w p A n cap L RR m k sv Z e q wr) (hB1 : But [p] wr w1) (hB2 : But [p] w1 w2) {o : Obj} {e2 q2 : Nat} (hR2 : Rd p A n cap L e2 q2 w2) {vn : Value} {z : J} (hz : Zrow w6 vn (Z ++ [z]))
    (hb6 : But (foot sv) (w2.alloc o) w6) (hs6 : Sprung (w2.alloc o) sv vn) (hrow : ∀ ad, z.1.1 = some ad → wr.heap.size ≤ ad.block) (heq : RR = rdItems L (m - (k + 1)) (itemsOf Z ++ [z.2]) e2 q2) : Reading w p A n cap L RR m (k + 1) vn (Z ++ [z]) e2 q2 w6 := by
  have hBB : But [p] w w2 := (h.but.then hB1).then hB2
  have hBo : But [p] w (w2.alloc o) := hBB.then (But.of_ev (Ev.alloc _ _))
  refine ⟨hz, fun g hg => ?_, fun x hx ad ea => ?_, (hR2.ev (Ev.alloc _ _)).but hb6 (fun hm => ?_) (fun ad ea hm => ?_), hBo.trans hb6 (fun x hx => .inr (h.high x (mem_foot.1 hx))), ?_, by simp [h.len], h.lt, h.apart⟩
  · rcases hs6 g hg with h1 | h1
    · exact h.high g h1
    · exact Nat.le_trans hBo.size h1
  · rcases List.mem_append.1 hx with hx | hx
    · exact h.rows x hx ad ea
    · rw [List.mem_singleton.1 hx] at ea
      exact Nat.le_trans h.but.size (hrow ad ea)
  · have := h.high p (mem_foot.1 hm); have := h.lt; omega
  · have := h.high _ (mem_foot.1 hm); have := h.apart ad ea; omega
  · rw [heq]; unfold itemsOf; rw [List.map_append]; rfl

set_option maxRecDepth 100000 in
set_option maxHeartbeats 4000000 in
theorem zset_read {p : Nat} {A : Option Addr} {n cap : Nat} {L : List UInt8} {why pos : Nat} (w : World) (h : Rd p A n cap L why pos w) :
    Calls Try.prog 23 #[.pointer (some ⟨p, 0, none⟩)] w fun e w' => ∃ v Z, e = .returned v ∧ Zrow w' v Z ∧ itemsOf Z = (rdSet L why pos).1 ∧ (∀ g, v.ownBlock = some g → w.heap.size ≤ g) ∧
      Rd p A n cap L (rdSet L why pos).2.1 (rdSet L why pos).2.2 w' ∧ But [p] w w' := by
  have HS := Lib.hid (reader_short w h)
  have hv := rdTake_val L why pos 2
  have HRR : Hid (rdSet L why pos = rdItems L (leVal (rdTake L why pos 2).1) [] (rdTake L why pos 2).2.1 (rdTake L why pos 2).2.2) := Lib.hid rfl
  have HA := Lib.hid h.apart
  have HP := Lib.hid h.lt
  clear h
  generalize rdSet L why pos = RR at *
  generalize rdTake L why pos 2 = T at *
  obtain ⟨T0, e0, q0⟩ := T
  simp only at HS hv HRR
  generalize leVal T0 = m at *
  go_enter Try.func23, Try.ntmps23
  go_wp2_with (first | ((with_reducible refine HS.out.mono ?_); rintro x w1 ⟨rfl, hR1, hB1⟩))
  go_loopw [7, 3] (fun i sv wr => ∃ (k : Nat) (Z : List J) (e q : Nat), k ≤ m ∧ i = .int .i64 (k : Int) ∧ Hid (Reading w p A n cap L RR m k sv Z e q wr)) (fun i _ _ => m - (intOf i).toNat)
  case atStart => exact ⟨0, [], e0, q0, Nat.zero_le _, rfl, Lib.hid ⟨Zrow.nil_ _, fun g e => (by cases e), fun _ hz => (by cases hz), hR1, hB1, HRR.out, rfl, HP.out, fun ad e => (HA.out ad e).2⟩⟩
  case round =>
    clear hR1 hB1 HS HRR
    obtain ⟨k, Z, e, q, hk, rfl, HM⟩ := hrel
    obtain ⟨sv, hsv⟩ : ∃ sv, sv = u3 := ⟨_, rfl⟩
    rw [← hsv] at HM ⊢
    clear hsv
    by_cases hlt : k < m
    · have i2 : (k : Int) < (m : Int) := by omega
      have HG := fun w1 (h1 : Rd p A n cap L e q w1) => row_get w1 h1
      have hV0 := HM.out.eq
      rw [show m - k = (m - (k + 1)) + 1 by omega] at hV0
      unfold rdItems at hV0
      generalize rdRow L e q = X at *
      obtain ⟨r, e1, q1⟩ := X
      simp only at HG hV0
      cases r with
      | nil =>
        have HF : Hid (RR = (itemsOf Z, e1, q1)) := Lib.hid hV0
        have HG := Lib.hid HG
        clear hV0
        go_wp2_with (first | ((with_reducible refine (HG.out _ HM.out.rd).mono ?_); rintro x w2 ⟨v, rfl, hV, hvg, hR2, hB2⟩; obtain ⟨A1, cap1, rfl, hVs, hVo⟩ := hV.vs))
        go_ret
        rw [HF.out]
        exact ⟨sv, Z, rfl, HM.out.turn hB2, rfl, HM.out.high, hR2, HM.out.but.then hB2⟩
      | cons r0 r =>
        generalize hrl : r0 :: r = rr at *
        have hne : rr.isEmpty = false := by rw [← hrl]; rfl
        have hpos : ¬ rr.length = 0 := by rw [← hrl]; simp
        clear hrl
        rw [hne] at hV0
        have HT := fun w1 (h1 : Rd p A n cap L e1 q1 w1) => reader_long w1 h1
        generalize rdTake L e1 q1 8 = T8 at *
        obtain ⟨T8b, e2, q2⟩ := T8
        simp only at HT hV0
        obtain ⟨nt, hnt⟩ : ∃ nt, wrap64 (leVal T8b : Int) = nt := ⟨_, rfl⟩
        rw [hnt] at HT hV0
        have hn1 : -9223372036854775808 ≤ nt ∧ nt ≤ 9223372036854775807 := by rw [← hnt]; unfold wrap64; omega
        have HO := Lib.hid (fun w1 => zset_ofNet_any nt hn1.1 hn1.2 w1)
        generalize netParts nt = pq at *
        obtain ⟨pp, qq⟩ := pq
        simp only at HO
        have HF : Hid (RR = rdItems L (m - (k + 1)) (itemsOf Z ++ [(rr, pp, qq)]) e2 q2) := Lib.hid hV0
        have HG := Lib.hid HG
        have HT := Lib.hid HT
        have HB : Hid ((Z.length + 1) * 40 ≤ 140737488355328) := Lib.hid (by rw [HM.out.len]; omega)
        clear hV0 hnt hn1 hne
        go_wp2_with (first | ((with_reducible refine (HG.out _ HM.out.rd).mono ?_); rintro x w2 ⟨v, rfl, hV, hvg, hR2, hB2⟩; obtain ⟨A1, cap1, rfl, hVs, hVo⟩ := hV.vs) | ((with_reducible refine (HT.out _ hR2).mono ?_); rintro x w3 ⟨rfl, hR3, hB3⟩) | ((with_reducible refine (HO.out _).mono ?_); rintro x w4 ⟨rfl, rfl⟩; have hZo := (HM.out.turn (hB2.then hB3)).ev (Ev.alloc w3 (.cells #[.slice A1 rr.length cap1, .complex .f64 (fl pp) (fl qq)] 31)); have hRo := HM.out.item hB2 hB3 hV hvg hVs hVo pp qq (.cells #[.slice A1 rr.length cap1, .complex .f64 (fl pp) (fl qq)] 31)) | (at_builtin; refine wpList_append_items rfl 24 (.tmp 14) (.tmp 20) rfl Try.underlying24 Try.infoItem sv Z rfl hZo (some ⟨w3.heap.size, 0, none⟩) 1 1 [((A1, rr.length, cap1), (rr, pp, qq))] rfl (Js.one w3 ((A1, rr.length, cap1), (rr, pp, qq))) hRo HB.out ?_; intro v6 w6 hz6 hb6 hs6))
        go_roundw
        case rel => exact ⟨k + 1, Z ++ [((A1, rr.length, cap1), (rr, pp, qq))], e2, q2, by omega, by go_num, Lib.hid (HM.out.next hB2 hB3 hR3 hz6 hb6 hs6 (fun ad ea => hvg _ (hVo ad ea)) HF.out)⟩
        case measure => simp [intOf]; omega
    · obtain rfl : k = m := by omega
      have HF : Hid (RR = (itemsOf Z, e, q)) := Lib.hid (by rw [HM.out.eq, Nat.sub_self]; rfl)
      go_wp2
      go_ret
      rw [HF.out]
      exact ⟨sv, Z, rfl, HM.out.own, rfl, HM.out.high, HM.out.rd, HM.out.but⟩
end Go.Proofs.Ytcenjjoadhfhaaa
