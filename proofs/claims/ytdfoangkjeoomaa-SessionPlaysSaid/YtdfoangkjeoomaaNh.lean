/-
  Load: the table that bytes are, or none.
-/
import Derived.Test.YtdfoangkjeoomaaNg
namespace Go.Proofs.Ytdfoangkjeoomaa
open Go.RowKit
set_option linter.unusedVariables false
set_option maxRecDepth 100000

theorem equal_bs (A B : Option Addr) (n m cap cap' : Nat) (l k : List UInt8) (w : World) (h : Bs w A n cap l) (h' : Bs w B m cap' k) :
    Calls Try.prog 20 #[.slice A n cap, .slice B m cap'] w fun e w' => e = .returned (.bool (l == k)) ∧ w' = w := by
  obtain ⟨b, hb⟩ : ∃ b, (l == k) = b := ⟨_, rfl⟩
  rw [hb]
  have e1 := h.str (P := Try.prog) 32 9 5 Try.underlying32 Try.underlying5 Try.underlying9
  have e2 := h'.str (P := Try.prog) 32 9 5 Try.underlying32 Try.underlying5 Try.underlying9
  clear h h'
  go_enter Try.func20, Try.ntmps20
  go_wp2
  go_ret
  exact ⟨rfl, rfl⟩

/-- What Load gives: the table, in a new block, or none. -/
def LoadOut (L : List UInt8) (w : World) (e : Ending) (w' : World) : Prop :=
  Ev w w' ∧ ((saveB (loadT L) = L ∧ ∃ p, e = .returned (.tuple #[.pointer (some ⟨p, 0, none⟩), .int .i64 0]) ∧ TbAt p (loadT L) w' ∧ w.heap.size ≤ p)
    ∨ (saveB (loadT L) ≠ L ∧ e = .returned (.tuple #[.pointer none, .int .i64 12])))

set_option maxHeartbeats 3200000 in
theorem sess_load (A : Option Addr) (n cap : Nat) (L : List UInt8) (w : World) (h : Bs w A n cap L) (hn : n + 1000 ≤ 140737488355328) :
    Calls Try.prog 10 #[.slice A n cap] w (LoadOut L w) := by
  have hlen := h.len
  have hA : ∀ ad, A = some ad → 0 < n → ad.block < w.heap.size := fun ad e h0 => by
    obtain ⟨b, off, e2, hlt, _⟩ := h.rd h0
    rw [e2] at e
    obtain rfl := Option.some.inj e
    exact hlt
  have HN := Lib.hid (sess_new w)
  have HNr := Lib.hid (fun (w1 : World) (hE : Ev w w1) => new_reader A n cap L w1 (h.below hE) (by omega))
  have HSz := Lib.hid (loadT_size L)
  have HBs := Lib.hid h
  have HA := Lib.hid hA
  clear h hA
  go_enter Try.func10, Try.ntmps10
  go_wp2_with (first | (refine HN.out.mono ?_; rintro e w1 ⟨rfl, hT1, hE1⟩) | (refine (HNr.out _ hE1).mono ?_; rintro e w2 ⟨rp, A2, cap2, rfl, hR2, hrp, hN2, hE2⟩))
  have hlt1 : w.heap.size < w1.heap.size := hT1.lt
  have hA2 : ∀ ad, A2 = some ad → w1.heap.size ≤ ad.block := fun ad e => (hN2 ad e).1
  have HA2 := Lib.hid hA2
  have hT2 := hT1.ev hE2
  have hE12 := hE1.trans hE2
  have HT2 := Lib.hid hT2; have HR2 := Lib.hid hR2; have HE12 := Lib.hid hE12
  clear hT2 hT1 hR2 hN2 hE1 hE2 hE12 hA2
  go_loopw [12] (fun x wr => ∃ (k : Nat) (T : List RQ) (why pos : Nat), k ≤ 16 ∧ x = .int .i64 (k : Int) ∧ TbAt w.heap.size T wr ∧ Rd rp A2 n cap2 L why pos wr ∧ Ev w wr ∧ loadT L = (loadF L (16 - k) k T why pos).1) (fun x _ => 16 - (intOf x).toNat)
  case atStart => exact ⟨0, newT, 0, 0, Nat.zero_le _, rfl, HT2.out, HR2.out, HE12.out, rfl⟩
  case round =>
    rename_i wr
    obtain ⟨k, T, why, pos, hk, rfl, hT, hR, hE, hF⟩ := hrel
    by_cases hlt : k < 16
    · have C1 := fun (w1 : World) (h : Rd rp A2 n cap2 L why pos w1) => reader_long w1 h
      have C2 := fun (w1 : World) (h : Rd rp A2 n cap2 L (rdTake L why pos 8).2.1 (rdTake L why pos 8).2.2 w1) => reader_long w1 h
      have C3 := fun (w1 : World) (h : Rd rp A2 n cap2 L (rdTake L (rdTake L why pos 8).2.1 (rdTake L why pos 8).2.2 8).2.1 (rdTake L (rdTake L why pos 8).2.1 (rdTake L why pos 8).2.2 8).2.2 w1) => reader_long w1 h
      have C4 := fun (w1 : World) (h : Rd rp A2 n cap2 L (rdTake L (rdTake L (rdTake L why pos 8).2.1 (rdTake L why pos 8).2.2 8).2.1 (rdTake L (rdTake L why pos 8).2.1 (rdTake L why pos 8).2.2 8).2.2 8).2.1 (rdTake L (rdTake L (rdTake L why pos 8).2.1 (rdTake L why pos 8).2.2 8).2.1 (rdTake L (rdTake L why pos 8).2.1 (rdTake L why pos 8).2.2 8).2.2 8).2.2 w1) => sess_readName rp A2 n cap2 L _ _ w1 h
      have hq : loadF L (16 - k) k T why pos = loadF L (16 - (k + 1)) (k + 1) (doneT T k (rdQ L why pos).1.1 (rdQ L why pos).1.2) (rdQ L why pos).2.1 (rdQ L why pos).2.2 := by
        rw [show 16 - k = (16 - (k + 1)) + 1 by omega]
        rfl
      rw [hq] at hF
      unfold rdQ at hF
      simp only at hF
      clear hq
      generalize rdTake L why pos 8 = a at *
      obtain ⟨al, a1, a2⟩ := a
      simp only at *
      generalize rdTake L a1 a2 8 = b at *
      obtain ⟨bl, b1, b2⟩ := b
      simp only at *
      generalize rdTake L b1 b2 8 = c at *
      obtain ⟨cl, c1, c2⟩ := c
      simp only at *
      generalize rdName L c1 c2 = d at *
      obtain ⟨dl, d1, d2⟩ := d
      simp only at *
      generalize wrap64 (leVal al : Int) = q0 at *
      generalize wrap64 (leVal bl : Int) = q1 at *
      generalize wrap64 (leVal cl : Int) = q2 at *
      generalize (⟨dl.toArray⟩ : ByteArray) = q3 at *
      have CD := fun (w1 : World) (h : TbAt w.heap.size T w1) => sess_done w.heap.size T k q0 (q1, q2, q3) w1 h
      unfold rv rcells at CD
      have H1 := Lib.hid C1; have H2 := Lib.hid C2; have H3 := Lib.hid C3; have H4 := Lib.hid C4; have HD := Lib.hid CD; have HF := Lib.hid hF
      have HT := Lib.hid hT; have HE := Lib.hid hE; have HR := Lib.hid hR
      clear C1 C2 C3 C4 CD hF hT hE hR
      go_upto_region 6 with (refine (H1.out _ HR.out).mono ?_; rintro e u1 ⟨rfl, hR1, hB1⟩)
      go_upto_region 7 with (first
        | (refine (H4.out _ hR3).mono ?_; rintro e u4 ⟨rfl, hR4, hB4⟩)
        | (have hh := hR2; refine (H3.out _ hR2).mono ?_; rintro e u3 ⟨rfl, hR3, hB3⟩)
        | (refine (H2.out _ hR1).mono ?_; rintro e u2 ⟨rfl, hR2, hB2⟩))
      have hnr : w.heap.size ∉ [rp] := fun hm => by simp at hm; omega
      have hTd := ((((HT.out.but hB1 hnr).but hB2 hnr).but hB3 hnr).but hB4 hnr).ev (Ev.alloc u4 (.cells #[.int .i64 q1, .int .i64 q2, .string q3] 26))
      go_wp2_with (refine (HD.out _ hTd).mono ?_; rintro e w6 ⟨rfl, hT6, hB6⟩)
      have hw1 := HE12.out.size
      have hR6 := (hR4.ev (Ev.alloc u4 (.cells #[.int .i64 q1, .int .i64 q2, .string q3] 26))).but hB6 (fun hm => by simp at hm; omega) (fun ad e hm => by have := HA2.out ad e; simp at hm; omega)
      have hE6 : Ev w w6 := by
        have b1 := (But.of_ev (K := []) HE.out).trans (((hB1.then hB2).then hB3).then hB4) (fun x hx => .inr (by simp at hx; omega))
        have b2 := b1.then (But.alloc (.cells #[.int .i64 q1, .int .i64 q2, .string q3] 26))
        exact (b2.trans hB6 (fun x hx => .inr (by simp at hx; omega))).ev (by simp)
      exact ⟨⟨k + 1, _, d1, d2, by omega, by simp, hT6, hR6, hE6, HF.out⟩, by simp [intOf]; omega⟩
    · obtain rfl : k = 16 := by omega
      have hTL : loadT L = T := hF
      rw [← hTL] at hT
      clear hTL hF
      have CS := sess_save w.heap.size (loadT L) wr hT (by have := HSz.out; omega)
      have HS := Lib.hid CS
      have HT := Lib.hid hT; have HE := Lib.hid hE
      have hEq := fun (A1 : Option Addr) (c1 : Nat) (u1 : World) (hE1 : Ev wr u1) (h1 : Bs u1 A1 (saveB (loadT L)).length c1 (saveB (loadT L))) => equal_bs A1 A _ n c1 cap _ L u1 h1 ((HBs.out.below HE.out).below hE1)
      obtain ⟨bq, hbq⟩ : ∃ b, (saveB (loadT L) == L) = b := ⟨_, rfl⟩
      rw [hbq] at hEq
      have HEq := Lib.hid hEq; have HQ := Lib.hid hbq
      clear CS hT hE hR hEq hbq
      go_upto_region 9 with fail
      cases bq with
      | true =>
        go_wp2_with (first | (refine HS.out.mono ?_; rintro e u1 ⟨A1, c1, rfl, hB1, hN1, hE1⟩) | (refine (HEq.out _ _ _ hE1 hB1).mono ?_; rintro e u2 ⟨rfl, rfl⟩))
        go_ret2
        refine ⟨HE.out.trans hE1, .inl ⟨by simpa using HQ.out, _, rfl, HT.out.ev hE1, Nat.le_refl _⟩⟩
      | false =>
        go_wp2_with (first | (refine HS.out.mono ?_; rintro e u1 ⟨A1, c1, rfl, hB1, hN1, hE1⟩) | (refine (HEq.out _ _ _ hE1 hB1).mono ?_; rintro e u2 ⟨rfl, rfl⟩))
        go_ret2
        refine ⟨HE.out.trans hE1, .inr ⟨by simpa using HQ.out, rfl⟩⟩
end Go.Proofs.Ytdfoangkjeoomaa
