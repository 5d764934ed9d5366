/-
  The walk of SessionOnce.
-/
import Derived.Test.YtdfoangkjeoomaaNe
import Derived.Test.YtdfoangkjeoomaaNj
import Derived.Deep.DeepCutAuto
namespace Go.Proofs.Ytdfoangkjeoomaa
open Go.RowKit
set_option linter.unusedVariables false
set_option maxRecDepth 100000

/-- Client c has done i requests, its neighbour none. -/
structure OnceOk (c o i : Nat) (T : List RQ) : Prop where
  len : T.length = 16
  own : (T.getD c rq0).1 = (i : Int)
  oth : (T.getD o rq0).1 = 0
theorem OnceOk.ask {c o i : Nat} {T : List RQ} (h : OnceOk c o i T) (hc : c < 16) (hi : i < 30) : askK T c ((i : Int) + 1) = 1 ∧ askR T c ((i : Int) + 1) = (0, 0, ⟨#[]⟩) := by
  have e : askK T c ((i : Int) + 1) = 1 := by
    unfold askK
    rw [if_neg (by omega), show ((c : Int)).toNat = c by omega, h.own, if_pos (by omega)]
  exact ⟨e, by unfold askR; rw [e]; rfl⟩
theorem OnceOk.done {c o i : Nat} {T : List RQ} (h : OnceOk c o i T) (hc : c < 16) (hi : i < 30) (hco : c ≠ o) (r : RP) :
    doneE T c ((i : Int) + 1) = 0 ∧ OnceOk c o (i + 1) (doneT T c ((i : Int) + 1) r) ∧ (doneT T c ((i : Int) + 1) r).getD c rq0 = ((i : Int) + 1, r) := by
  have e := (h.ask hc hi).1
  have hl := h.len
  have ho := h.oth
  have hz : ((c : Int)).toNat = c := by omega
  unfold doneE doneT
  rw [if_pos e, if_pos e, hz]
  have hg : (T.set c ((i : Int) + 1, r)).getD c rq0 = ((i : Int) + 1, r) := by simp [List.getD, show c < T.length by omega]
  refine ⟨rfl, ⟨by simp [hl], by rw [hg]; simp, ?_⟩, hg⟩
  simp only [List.getD, List.getElem?_set_ne hco] at ho ⊢
  exact ho
theorem OnceOk.again {c o i : Nat} {T : List RQ} (hc : c < 16) (hi : i < 30) {r : RP} (h : T.getD c rq0 = ((i : Int) + 1, r)) : askK T c ((i : Int) + 1) = 2 ∧ askR T c ((i : Int) + 1) = r := by
  have e : askK T c ((i : Int) + 1) = 2 := by
    unfold askK
    rw [if_neg (by omega), show ((c : Int)).toNat = c by omega, h, if_neg (by simp), if_pos rfl]
  exact ⟨e, by unfold askR; rw [e, show ((c : Int)).toNat = c by omega, h]; rfl⟩
theorem OnceOk.other {c o i : Nat} {T : List RQ} (h : OnceOk c o i T) (ho : o < 16) : (askK T o 1 = 1 ∧ askR T o 1 = (0, 0, ⟨#[]⟩)) ∧ lastS T o = 0 := by
  have e : askK T o 1 = 1 := by
    unfold askK
    rw [if_neg (by omega), show ((o : Int)).toNat = o by omega, h.oth, if_pos (by omega)]
  refine ⟨⟨e, by unfold askR; rw [e]; rfl⟩, ?_⟩
  unfold lastS
  rw [if_neg (by omega), show ((o : Int)).toNat = o by omega, h.oth]
theorem OnceOk.last {c o i : Nat} {T : List RQ} (h : OnceOk c o i T) (hc : c < 16) : lastS T c = (i : Int) := by
  unfold lastS
  rw [if_neg (by omega), show ((c : Int)).toNat = c by omega, h.own]
theorem OnceOk.zero {c o : Nat} (hc : c < 16) (ho : o < 16) : OnceOk c o 0 newT := by
  have h : ∀ k, k < 16 → newT.getD k rq0 = rq0 := fun k hk => by
    have hr : newT[k]? = some rq0 := by unfold newT; rw [List.getElem?_replicate]; simp [hk]
    simp only [List.getD, hr, Option.getD_some]
  exact ⟨rfl, by rw [h c hc]; rfl, by rw [h o ho]; rfl⟩
theorem tmod_nat (a b : Nat) : Int.tmod (a : Int) (b : Int) = ((a % b : Nat) : Int) := by rw [Int.ofNat_tmod]

set_option maxHeartbeats 6400000 in
theorem once_walk (A0 : Option Addr) (n0 cap0 : Nat) (l0 : List Int) (x1 : Int) (w : World) (h0 : Ns w A0 n0 cap0 l0) (r0 : ∀ y ∈ l0, -9223372036854775808 ≤ y ∧ y ≤ 9223372036854775807) (r1 : -9223372036854775808 ≤ x1 ∧ x1 ≤ 9223372036854775807) :
    Calls Try.prog 5 #[.slice A0 n0 cap0, .int .i64 x1] w fun e w' => e = .returned (.bool true) ∧ Ev w w' := by
  have HN := Lib.hid (sess_new w)
  have HK := Lib.hid known17
  have H0 := Lib.hid h0
  have R0 := Lib.hid r0
  have hn := h0.max
  have hn1 := h0.le
  clear h0 r0
  go_enter Try.func5, Try.ntmps5
  go_upto_if 17 with ((with_reducible refine HN.out.mono ?_); rintro e w1 ⟨rfl, hT1, hE1⟩)
  have HT1 := Lib.hid hT1; have HE1 := Lib.hid hE1
  clear hT1 hE1
  go_cut [1] (fun v wx => ∃ d : Nat, v = .int .i64 (d : Int) ∧ wx = w1)
  case first =>
    by_cases hx : x1 < 0
    · go_wp2_with fail
      go_meet
      exact ⟨(-(x1 + 1)).toNat, by congr 1; omega, rfl⟩
    · go_wp2_with fail
      go_meet
      exact ⟨x1.toNat, by congr 1; omega, rfl⟩
  case rest =>
  rename World => w1
  obtain ⟨d, rfl, rfl⟩ := hcut
  clear r1
  obtain ⟨c, hcd⟩ : ∃ c, c = d % 16 := ⟨_, rfl⟩
  have hc : c < 16 := by omega
  obtain ⟨o, hod⟩ : ∃ o, o = (c + 1) % 16 := ⟨_, rfl⟩
  have ho : o < 16 := by omega
  have hco : c ≠ o := by omega
  have HM : (d : Int) % 16 = (c : Int) := by omega
  have HO : ((c : Int) + 1) % 16 = (o : Int) := by omega
  have HHO := Lib.hid HO
  clear hcd hod
  clear HO
  go_upto_region 8 with fail
  simp only [HM]
  clear HM
  go_loopw [6] (fun x wr => ∃ (i : Nat) (T : List RQ), x = .int .i64 (i : Int) ∧ i ≤ 30 ∧ TbAt w.heap.size T wr ∧ Ev w wr ∧ OnceOk c o i T) (fun x _ => 30 - (intOf x).toNat)
  case atStart => exact ⟨0, newT, rfl, by omega, HT1.out, HE1.out, OnceOk.zero hc ho⟩
  case round =>
    rename_i wr
    obtain ⟨i, T, rfl, hi, hT, hE, hOk⟩ := hrel
    by_cases hlt : i < n0 ∧ i < 30
    · obtain ⟨hlt1, hlt2⟩ := hlt
      obtain ⟨y, hy⟩ := H0.out.at hlt1
      obtain ⟨b, off, rfl, hbl, hcell⟩ := H0.out.rd (by omega)
      have hcy : wr.cell? ⟨b, off + i, none⟩ = some (.int .i64 y) := by
        have := hcell i y hy 0 _ rfl
        simp only [Nat.mul_one, Nat.add_zero] at this
        rw [World.cell?_of_block (w := w) (hE.block b hbl)]
        exact this
      have hyr := R0.out y (List.mem_of_getElem? hy)
      have HT := Lib.hid hT; have HE := Lib.hid hE; have HOk := Lib.hid hOk
      clear hT hE hOk hcell hy
      go_upto_if 38 with fail
      go_cut [7] (fun v wx => ∃ d : Nat, v = .int .i64 (d : Int) ∧ wx = wr)
      case first =>
        by_cases hx : y < 0
        · go_wp2_with fail
          go_meet
          exact ⟨(-(y + 1)).toNat, by congr 1; omega, rfl⟩
        · go_wp2_with fail
          go_meet
          exact ⟨y.toNat, by congr 1; omega, rfl⟩
      case rest =>
      rename World => wr
      obtain ⟨d2, rfl, rfl⟩ := hcut
      clear hcy hyr
      go_upto_region 14 with fail
      obtain ⟨m, hm⟩ : ∃ m, m = d2 % 4 := ⟨_, rfl⟩
      have hm4 : m < 4 := by omega
      have HM2 : (d2 : Int) % 4 = (m : Int) := by omega
      clear hm
      go_loopw [8] (fun x wq => ∃ (k : Nat) (T : List RQ), x = .int .i64 (k : Int) ∧ k ≤ 4 ∧ TbAt w.heap.size T wq ∧ Ev w wq ∧ ((k = 0 ∧ OnceOk c o i T) ∨ (1 ≤ k ∧ OnceOk c o (i + 1) T ∧ T.getD c rq0 = ((i : Int) + 1, (0, (i : Int), ⟨#[]⟩))))) (fun x _ => 4 - (intOf x).toNat)
      case atStart => exact ⟨0, T, rfl, by omega, HT.out, HE.out, .inl ⟨rfl, HOk.out⟩⟩
      case round =>
        rename_i wq
        obtain ⟨k, T2, rfl, hk, hT2, hE2, hOk2⟩ := hrel
        have HT2 := Lib.hid hT2; have HE2 := Lib.hid hE2
        clear hT2 hE2
        by_cases hkm : k ≤ m
        · rcases hOk2 with ⟨rfl, hOk2⟩ | ⟨hk1, hOk2, hg⟩
          · have ha := hOk2.ask hc hlt2
            obtain ⟨hd1, hd2, hd3⟩ := hOk2.done hc hlt2 hco (0, (i : Int), ⟨#[]⟩)
            have HA := Lib.hid (ask_known w.heap.size T2 c ((i : Int) + 1) 1 0 0 ⟨#[]⟩ ha)
            have HD := Lib.hid (done_known w.heap.size T2 _ c ((i : Int) + 1) 0 0 (i : Int) ⟨#[]⟩ ⟨hd1, rfl⟩)
            have HO2 := Lib.hid hd2; have HG2 := Lib.hid hd3
            clear ha hd1 hd2 hd3 hOk2
            go_upto_region 17 with ((with_reducible refine (HA.out _ HT2.out).mono ?_); rintro e u1 ⟨rfl, hF1⟩)
            have hT3 := (HT2.out.ev hF1).ev (Ev.alloc u1 (.cells #[.int .i64 0, .int .i64 0, .string ⟨#[]⟩] 26))
            have hE3 := (HE2.out.trans hF1).trans (Ev.alloc u1 (.cells #[.int .i64 0, .int .i64 0, .string ⟨#[]⟩] 26))
            generalize u1.alloc (.cells #[.int .i64 0, .int .i64 0, .string ⟨#[]⟩] 26) = u2 at *
            go_wp2_with ((with_reducible refine (HD.out _ hT3).mono ?_); rintro e u3 ⟨rfl, hT4, hB4⟩)
            have hE4 : Ev w u3 := ((But.of_ev (K := []) hE3).trans hB4 (fun x hx => .inr (by simp at hx; omega))).ev (by simp)
            exact ⟨⟨1, _, rfl, by omega, hT4, hE4, .inr ⟨by omega, HO2.out, HG2.out⟩⟩, by simp [intOf]⟩
          · have ha := OnceOk.again (o := o) hc hlt2 hg
            have HA := Lib.hid (ask_known w.heap.size T2 c ((i : Int) + 1) 2 0 (i : Int) ⟨#[]⟩ ha)
            have HO2 := Lib.hid hOk2; have HG2 := Lib.hid hg
            clear ha hOk2 hg
            go_upto_region 17 with ((with_reducible refine (HA.out _ HT2.out).mono ?_); rintro e u1 ⟨rfl, hF1⟩)
            have hT3 := (HT2.out.ev hF1).ev (Ev.alloc u1 (.cells #[.int .i64 0, .int .i64 (i : Int), .string ⟨#[]⟩] 26))
            have hE3 := (HE2.out.trans hF1).trans (Ev.alloc u1 (.cells #[.int .i64 0, .int .i64 (i : Int), .string ⟨#[]⟩] 26))
            have hk0 : ¬ ((k : Int) = 0) := by omega
            go_wp2
            refine ⟨⟨k + 1, T2, by simp, by omega, hT3, hE3, .inr ⟨by omega, HO2.out, HG2.out⟩⟩, by simp [intOf]; omega⟩
        · obtain ⟨hk1, hOk3, _⟩ := hOk2.resolve_left (fun h => by omega)
          have hoth := hOk3.other ho
          have hlast := hOk3.last hc
          have HA := Lib.hid (ask_known w.heap.size T2 o 1 1 0 0 ⟨#[]⟩ hoth.1)
          have HL1 := Lib.hid (last_known w.heap.size T2 o 0 hoth.2)
          have HL2 := Lib.hid (last_known w.heap.size T2 c ((i : Int) + 1) (by simpa using hlast))
          have HO3 := Lib.hid hOk3
          have HO := HHO.out
          clear hOk2 hOk3 hoth hlast
          go_upto_region 23 with ((with_reducible refine (HA.out _ HT2.out).mono ?_); rintro e u1 ⟨rfl, hF1⟩)
          have hT3 := (HT2.out.ev hF1).ev (Ev.alloc u1 (.cells #[.int .i64 0, .int .i64 0, .string ⟨#[]⟩] 26))
          have hE3 := (HE2.out.trans hF1).trans (Ev.alloc u1 (.cells #[.int .i64 0, .int .i64 0, .string ⟨#[]⟩] 26))
          generalize u1.alloc (.cells #[.int .i64 0, .int .i64 0, .string ⟨#[]⟩] 26) = u2 at *
          go_wp2_with (first
            | ((with_reducible refine (HL1.out _ hT3).mono ?_); rintro e u3 ⟨rfl, rfl⟩)
            | ((with_reducible refine (HL2.out _ hT3).mono ?_); rintro e u4 ⟨rfl, rfl⟩))
          refine ⟨⟨i + 1, T2, by simp, by omega, hT3, hE3, HO3.out⟩, by simp [intOf]; omega⟩
    · have HK1 := Lib.hid (HK.out wr)
      have hcnt : (i : Int) < n0 → ¬ (i : Int) < 30 := fun h h2 => hlt ⟨by omega, by omega⟩
      have HE := Lib.hid hE
      clear hT hOk hE
      by_cases hi1 : (i : Int) < (n0 : Int)
      · have hi2 : ¬ (i : Int) < 30 := hcnt hi1
        clear hcnt hlt
        go_wp2_with ((with_reducible refine HK1.out.mono ?_); rintro e u1 ⟨rfl, hF1⟩)
        go_ret
        exact ⟨rfl, HE.out.trans hF1⟩
      · clear hcnt hlt
        go_wp2_with ((with_reducible refine HK1.out.mono ?_); rintro e u1 ⟨rfl, hF1⟩)
        go_ret
        exact ⟨rfl, HE.out.trans hF1⟩
end Go.Proofs.Ytdfoangkjeoomaa
