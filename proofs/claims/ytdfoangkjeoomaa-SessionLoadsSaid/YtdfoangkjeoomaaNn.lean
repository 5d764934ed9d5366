/-
  The walk of SessionLoads.
-/
import Derived.Test.YtdfoangkjeoomaaNl
namespace Go.Proofs.Ytdfoangkjeoomaa
open Go.RowKit
set_option linter.unusedVariables false
set_option maxRecDepth 100000

theorem last_top {m : Nat} {T : List RQ} (h : TOk m T) : lastS (doneT T 3 1073741824 rp0) 3 = 1073741824 := by
  have hl := h.1
  have hq : T[3]? = some (T.getD 3 rq0) := by simp [List.getD, show 3 < T.length by omega]
  have hok := (h.2 _ (List.mem_of_getElem? hq)).1
  have hz : (3 : Int).toNat = 3 := rfl
  have h0 : rq0.1 = 0 := rfl
  by_cases hk : askK T 3 1073741824 = 1
  · unfold doneT lastS
    rw [if_pos hk, if_neg (by omega), hz]
    simp [List.getD, show 3 < T.length by omega]
  · unfold doneT lastS
    rw [if_neg hk, if_neg (by omega), hz]
    unfold askK at hk
    rw [if_neg (by omega), hz] at hk
    by_cases h1 : (T.getD 3 rq0).1 < 1073741824
    · rw [if_pos h1] at hk; exact absurd rfl hk
    · rcases hok with e | e
      · rw [e, h0] at h1; omega
      · omega
theorem row_parts {w : World} {A : Option Addr} {n cap : Nat} {l : List UInt8} (h : Row w (.slice A n cap) l) (h0 : 0 < l.length) : ∃ g, A = some ⟨g, 0, none⟩ ∧ n = l.length ∧ Bs w (some ⟨g, 0, none⟩) n cap l ∧ ∀ k, w.frozen? ⟨g, k, none⟩ = false := by
  rcases h.2 with ⟨e, hn⟩ | ⟨g, c, cur, e, _⟩
  · omega
  · simp only [Value.slice.injEq] at e
    obtain ⟨rfl, rfl, rfl⟩ := e
    exact ⟨g, rfl, rfl, Bs.own h, fun k => World.ownsRow.frozenAt (show World.ownsRow _ _ _ _ _ _ _ from h) k⟩
theorem bs_set {w : World} {g off n cap : Nat} {l : List UInt8} (h : Bs w (some ⟨g, off, none⟩) n cap l) {k : Nat} (hk : k < n) (y : UInt8) : Bs (w.setCell ⟨g, off + k, none⟩ (.int .u8 (y.toNat : Int))) (some ⟨g, off, none⟩) n cap (l.set k y) := by
  refine ⟨by rw [List.length_set, h.len], h.le, h.max, h.nil, fun h0 => ?_⟩
  obtain ⟨b, o, e, hlt, hc⟩ := h.rd h0
  simp only [Option.some.injEq, Addr.mk.injEq, and_true] at e
  obtain ⟨rfl, rfl⟩ := e
  refine ⟨g, off, rfl, by simpa [World.setCell] using hlt, fun i hi => ?_⟩
  by_cases hik : i = k
  · subst hik
    rw [World.cell?_setCell_same _ _ _ (hc i hi)]
    have := h.len
    simp [List.getD, show i < l.length by omega]
  · rw [World.cell?_setCell_other (h := show (⟨g, off + k, none⟩ : Addr) ≠ ⟨g, off + i, none⟩ by intro e; injection e with _ e2 _; omega) .., hc i hi]
    simp [List.getD, List.getElem?_set_ne (show k ≠ i by omega)]

theorem bits_xor_u8_nat (a b : Nat) (ha : a < 256) (hb : b < 256) : bits .xor .u8 (a : Int) (b : Int) = ((a ^^^ b : Nat) : Int) := by
  have hx : a ^^^ b < 2 ^ 8 := Nat.xor_lt_two_pow (by omega) (by omega)
  have h1 : (BitVec.ofInt 8 (a : Int)).toNat = a := by
    rw [BitVec.ofInt_natCast, BitVec.toNat_ofNat]; exact Nat.mod_eq_of_lt (by omega)
  have h2 : (BitVec.ofInt 8 (b : Int)).toNat = b := by
    rw [BitVec.ofInt_natCast, BitVec.toNat_ofNat]; exact Nat.mod_eq_of_lt (by omega)
  show IntKind.u8.wrap ((BitVec.ofInt 8 (a : Int) ^^^ BitVec.ofInt 8 (b : Int)).toNat : Int) = _
  rw [BitVec.toNat_xor, h1, h2]
  simp [IntKind.wrap, IntKind.signed, IntKind.bits]
  omega
theorem xor_byte (q : UInt8) (x : Int) (h : 0 ≤ x ∧ x < 256) : ∃ y : UInt8, bits .xor .u8 (q.toNat : Int) x = (y.toNat : Int) := by
  obtain ⟨b, rfl⟩ : ∃ b : Nat, x = b := ⟨x.toNat, by omega⟩
  have hq := q.toNat_lt
  have hx : q.toNat ^^^ b < 2 ^ 8 := Nat.xor_lt_two_pow (by omega) (by omega)
  refine ⟨UInt8.ofNat (q.toNat ^^^ b), ?_⟩
  rw [bits_xor_u8_nat _ _ (by omega) (by omega)]
  congr 1
  simp only [UInt8.toNat_ofNat']
  omega

set_option maxHeartbeats 6400000 in
theorem loads_walk (A0 : Option Addr) (n0 cap0 : Nat) (l0 : List UInt8) (A1 : Option Addr) (n1 cap1 : Nat) (l1 : List AK) (x2 x3 : Int) (w : World) (h0 : Bs w A0 n0 cap0 l0) (hb0 : n0 + 1000 ≤ 140737488355328) (h1 : As w A1 n1 cap1 l1)
    (r1 : ∀ y ∈ l1, RIn y.2.2.2 ∧ y.2.2.2.2.2.size ≤ maxLen) (r2 : -9223372036854775808 ≤ x2 ∧ x2 ≤ 9223372036854775807) (r3 : 0 ≤ x3 ∧ x3 < 256) :
    Calls Try.prog 6 #[.slice A0 n0 cap0, .slice A1 n1 cap1, .int .i64 x2, .int .u8 x3] w fun e w' => e = .returned (.bool true) ∧ Ev w w' := by
  have HN := Lib.hid (sess_new w)
  have HK := Lib.hid known17
  have H0 := Lib.hid h0
  have H1 := Lib.hid h1
  have R1 := Lib.hid r1
  clear h0 h1 r1
  go_enter Try.func6, Try.ntmps6
  go_upto_region 5 with ((with_reducible refine HN.out.mono ?_); rintro e w1 ⟨rfl, hT1, hE1⟩)
  have HT1 := Lib.hid hT1; have HE1 := Lib.hid hE1
  clear hT1 hE1
  go_loopw [10] (fun x wr => ∃ (i : Nat) (T : List RQ), x = .int .i64 (i : Int) ∧ i ≤ 10 ∧ TbAt w.heap.size T wr ∧ Ev w wr ∧ TOk 100 T) (fun x _ => 10 - (intOf x).toNat)
  case atStart => exact ⟨0, newT, rfl, by omega, HT1.out, HE1.out, newT_ok 100⟩
  case round =>
    rename_i wr
    obtain ⟨i, T, rfl, hi, hT, hE, hOk⟩ := hrel
    by_cases hlt : i < n1 ∧ i < 10
    · obtain ⟨hlt1, hlt2⟩ := hlt
      obtain ⟨b, off, y, rfl, hy, c0, c1, c2, c3, c4, c5⟩ := H1.out.acell hE hlt1
      obtain ⟨hr, hsz⟩ := R1.out y (List.mem_of_getElem? hy)
      obtain ⟨y0, y1, y2, z0, z1, z2⟩ := y
      simp only at c0 c1 c2 c3 c4 c5 hr hsz
      have HT := Lib.hid hT; have HE := Lib.hid hE; have HOk := Lib.hid hOk; have HR := Lib.hid hr
      clear hT hE hOk hy hr hsz
      by_cases hs : (z2.size : Int) < 100
      · have HD := Lib.hid (fun w1 (h1 : TbAt w.heap.size T w1) => sess_done w.heap.size T y1 y2 (z0, z1, z2) w1 h1)
        unfold rv rcells at HD
        go_upto_region 8 with fail
        go_region_law (refine step_callv rfl 9 #[.tmp 40, .tmp 45, .tmp 50, .tmp 55] #[22, 3, 3, 26] rfl (by kernel_rfl) _ (by simp only [List.map_toArray, List.map_cons, List.map_nil]; rfl) (HD.out _ (HT.out.ev (Ev.drew wr))) ?_; rintro u1 ⟨hT2, hB2⟩)
        all_goals
          go_wp2
          have hE2 : Ev w u1 := ((But.of_ev (K := []) (HE.out.trans (Ev.drew wr))).trans hB2 (fun x hx => .inr (by simp at hx; omega))).ev (by simp)
          exact ⟨⟨i + 1, _, by simp, by omega, hT2, hE2, doneT_ok HOk.out _ _ ⟨HR.out.1, HR.out.2, by simp only; omega⟩⟩, by simp [intOf]; omega⟩
      · go_wp2
        exact ⟨⟨i + 1, T, by simp, by omega, HT.out, HE.out, HOk.out⟩, by simp [intOf]; omega⟩
    · have hcs : ¬ (i : Int) < n1 ∨ ((i : Int) < n1 ∧ ¬ (i : Int) < 10) := by
        by_cases h1 : i < n1
        · exact .inr ⟨by omega, fun h2 => hlt ⟨h1, by omega⟩⟩
        · exact .inl (by omega)
      clear hlt
      have hsz := saveB_le (by decide) T hOk.2
      rw [hOk.1] at hsz
      have HT := Lib.hid hT; have HE := Lib.hid hE; have HOk := Lib.hid hOk
      obtain ⟨L, hL⟩ : ∃ L, L = lastS T 3 := ⟨_, rfl⟩
      have HSv := Lib.hid (sess_save_row w.heap.size T wr hT (by omega))
      have HLd := Lib.hid (fun (A : Option Addr) (cap : Nat) (w1 : World) (h : Bs w1 A (saveB T).length cap (saveB T)) => load_saved (by decide) hOk A cap w1 h)
      have HL1 := Lib.hid (fun (w1 : World) (h : TbAt w.heap.size T w1) => last_known w.heap.size T 3 L hL.symm w1 h)
      have HD := Lib.hid (fun (p : Nat) (w1 : World) (h : TbAt p T w1) => sess_done p T 3 1073741824 rp0 w1 h)
      obtain ⟨T2, hT2⟩ : ∃ T2, T2 = doneT T 3 1073741824 rp0 := ⟨_, rfl⟩
      have h17 : lastS T2 3 = 1073741824 := by rw [hT2]; exact last_top hOk
      rw [rv_zero, ← hT2] at HD
      have HL2 := Lib.hid (fun (p : Nat) (w1 : World) (h : TbAt p T2 w1) => last_known p T2 3 1073741824 h17 w1 h)
      have hS416 : 416 ≤ (saveB T).length := by have := saveB_ge T; have := HOk.out.1; omega
      generalize saveB T = S at *
      clear hT hE hOk hL hT2 h17
      have hS0 : (0 : Int) < (S.length : Int) := by omega
      have hat : TbAt w.heap.size T wr := HT.out
      rcases hcs with hi1 | ⟨hi1, hi2⟩
      all_goals
        go_upto_region 10 with ((with_reducible refine HSv.out.mono ?_); rintro e v1 ⟨As, caps, rfl, hRs, hNs, hF1⟩)
        obtain ⟨g, rfl, _, hBs, hfz⟩ := row_parts hRs (by omega)
        have hgn := hNs _ rfl
        have hwr := HE.out.size
        have htl := HT.out.lt
        go_upto_region 13 with ((with_reducible refine (HLd.out _ _ _ hBs).mono ?_); rintro e v2 ⟨up, rfl, hU2, hup, hF2⟩)
        have hT2 := (HT.out.ev hF1).ev hF2
        have hpu : w.heap.size ∉ [up] := fun hm => by have := hF1.size; simp at hm; omega
        go_upto_region 14 with ((with_reducible refine (HL1.out _ hT2).mono ?_); rintro e v9 ⟨rfl, hq⟩; subst v9)
        go_upto_region 15 with ((with_reducible refine (HD.out up _ hU2).mono ?_); rintro e v3 ⟨rfl, hU3, hB3⟩)
        have hT3 := hT2.but hB3 hpu
        go_upto_if 88 with (first
          | ((with_reducible refine (HL1.out _ hT3).mono ?_); rintro e v9 ⟨rfl, hq⟩; subst v9)
          | ((with_reducible refine (HL2.out up _ hU3).mono ?_); rintro e v9 ⟨rfl, hq⟩; subst v9))
        have hgl : g < v1.heap.size := (hgn).2
        have hgn1 := hgn.1
        have hgu : g ∉ [up] := fun hm => by simp at hm; omega
        have hRs3 := (hRs.ev hF2).but hB3 (fun g' e => by simp [Value.ownBlock] at e; subst e; exact hgu)
        obtain ⟨g', eg, _, hBs3, hfz3⟩ := row_parts hRs3 (by omega)
        simp only [Option.some.injEq, Addr.mk.injEq, and_true] at eg
        subst eg
        have hE3 : Ev w v3 := ((But.of_ev (K := []) ((HE.out.trans hF1).trans hF2)).trans hB3 (fun x hx => .inr (by have := hF1.size; simp at hx; omega))).ev (by simp)
        have HBs3 := Lib.hid hBs3; have HFz := Lib.hid hfz3; have HE3 := Lib.hid hE3
        clear hRs hRs3 hNs hBs hfz hU2 hT2 hU3 hB3 hT3 hF1 hF2 hBs3 hfz3 hE3 hgu hpu
        go_cut [2] (fun v wx => ∃ d : Nat, v = .int .i64 (d : Int) ∧ wx = v3)
        case first =>
          by_cases hx : x2 < 0
          · go_wp2_with fail
            go_meet
            exact ⟨(-(x2 + 1)).toNat, by congr 1; omega, rfl⟩
          · go_wp2_with fail
            go_meet
            exact ⟨x2.toNat, by congr 1; omega, rfl⟩
        case rest =>
        rename World => v3
        obtain ⟨d, rfl, rfl⟩ := hcut
        clear r2
        obtain ⟨k, hkd⟩ : ∃ k, k = d % S.length := ⟨_, rfl⟩
        have hk : k < S.length := by rw [hkd]; exact Nat.mod_lt _ (by omega)
        have HM : (d : Int) % (S.length : Int) = (k : Int) := by rw [hkd]; simp
        obtain ⟨bq, oq, eqq, _, hcq⟩ := HBs3.out.rd (by omega)
        simp only [Option.some.injEq, Addr.mk.injEq, and_true] at eqq
        obtain ⟨rfl, rfl⟩ := eqq
        have hc0 := hcq k hk
        have hf0 := HFz.out k
        rw [Nat.zero_add] at hc0
        have HBset := Lib.hid (fun y => bs_set HBs3.out hk y)
        clear hcq
        generalize S.getD k 0 = qb at *
        clear hkd
        go_upto_region 20 with fail
        go_region
        obtain ⟨yb, hyb⟩ := xor_byte qb x3 r3
        rw [hyb]
        have hB5 := (HBset.out yb).below (Ev.drew _)
        rw [Nat.zero_add] at hB5
        have hE5 : Ev w (v3.setCell ⟨g, k, none⟩ (.int .u8 (yb.toNat : Int))).drew := (((But.of_ev (K := []) HE3.out).trans (But.setCell (K := [g]) ⟨g, k, none⟩ (.int .u8 (yb.toNat : Int)) (by simp)) (fun x hx => .inr (by simp at hx; omega))).then But.drew).ev (by simp)
        have hSl : (S.set k yb).length = S.length := List.length_set
        generalize (v3.setCell ⟨g, k, none⟩ (.int .u8 (yb.toNat : Int))).drew = v5 at *
        generalize S.set k yb = S2 at *
        clear hc0 hf0 hyb HM hat
        go_upto_region 22 with fail
        have hvb : (v5.alloc (.cells #[.slice A0 n0 cap0, .slice (some ⟨g, 0, none⟩) S.length caps] 32)).heap[v5.heap.size]? = some (.cells #[.slice A0 n0 cap0, .slice (some ⟨g, 0, none⟩) S.length caps] 32 (0, 0)) := heap_alloc_new v5 _
        have hE6 := hE5.trans (Ev.alloc v5 (.cells #[.slice A0 n0 cap0, .slice (some ⟨g, 0, none⟩) S.length caps] 32))
        have hB6 := hB5.below (Ev.alloc v5 (.cells #[.slice A0 n0 cap0, .slice (some ⟨g, 0, none⟩) S.length caps] 32))
        generalize v5.alloc (.cells #[.slice A0 n0 cap0, .slice (some ⟨g, 0, none⟩) S.length caps] 32) = v6 at *
        have HVb := Lib.hid hvb; have HE6 := Lib.hid hE6; have HB6 := Lib.hid hB6
        clear hvb hE6 hB6 hB5 hE5
        go_loopw [111] (fun x wq => ∃ k : Nat, x = .int .i64 (k : Int) ∧ k ≤ 2 ∧ Ev v6 wq) (fun x _ => 2 - (intOf x).toNat)
        case atStart => exact ⟨0, rfl, by omega, Ev.refl _⟩
        case round =>
          rename World => wq
          obtain ⟨k2, rfl, hk2, hEq⟩ := hrel
          by_cases hlt2 : k2 < 2
          · obtain ⟨A9, n9, cap9, l9, hc9, hB9, hn9⟩ : ∃ A n cap l, wq.cell? ⟨v5.heap.size, k2, none⟩ = some (.slice A n cap) ∧ Bs wq A n cap l ∧ n + 1000 ≤ 140737488355328 := by
              have hbl := (But.of_ev (K := []) hEq).heap HVb.out (by simp)
              match k2, hlt2 with
              | 0, _ => exact ⟨A0, n0, cap0, l0, by rw [Lib.cell_of_heap hbl]; rfl, (H0.out.below HE6.out).below hEq, hb0⟩
              | 1, _ => exact ⟨_, S.length, caps, S2, by rw [Lib.cell_of_heap hbl]; rfl, HB6.out.below hEq, by omega⟩
            have HLo := Lib.hid (sess_load A9 n9 cap9 l9 wq hB9 hn9)
            have HEq := Lib.hid hEq
            clear hB9 hn9 hEq
            go_wp2_with ((with_reducible refine HLo.out.mono ?_); rintro e u1 ⟨hF, ⟨_, px, rfl, _, _⟩ | ⟨_, rfl⟩⟩)
            all_goals exact ⟨⟨k2 + 1, by simp, by omega, HEq.out.trans hF⟩, by simp [intOf]; omega⟩
          · obtain rfl : k2 = 2 := by omega
            have HK1 := Lib.hid (HK.out wq)
            have HEq := Lib.hid hEq
            clear hEq
            go_wp2_with ((with_reducible refine HK1.out.mono ?_); rintro e u1 ⟨rfl, hF1⟩)
            go_ret
            exact ⟨rfl, (HE6.out.trans HEq.out).trans hF1⟩
end Go.Proofs.Ytdfoangkjeoomaa
