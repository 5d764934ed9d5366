/-
  Names in pieces, written and read.
-/
import Derived.Test.YtdfoangkjeoomaaNb
import Derived.ScopeJumps
namespace Go.Proofs.Ytdfoangkjeoomaa
open Go.RowKit
set_option linter.unusedVariables false
set_option maxRecDepth 100000

theorem nameB_le : ∀ (m : Nat) (l : List UInt8), l.length ≤ m → (nameB l).length ≤ 2 * l.length + 2
  | m, l, hm => by
    by_cases h : 65535 ≤ l.length
    · match m, hm with
      | 0, hm => omega
      | m + 1, hm =>
        have := nameB_le m (l.drop 65535) (by simp; omega)
        rw [nameB_long h]
        simp [textBytes_length] at this ⊢
        omega
    · rw [nameB_short (by omega)]; simp [textBytes_length]; omega
/-- Writer.Text over the rest of a name: what is told in the pieces ahead. -/
theorem ba_take (t : ByteArray) (k : Nat) : (t.extract 0 k).data.toList = t.data.toList.take k := by simp [ByteArray.data_extract, Array.toList_extract]
theorem ba_drop (t : ByteArray) (k : Nat) : (t.extract k t.size).data.toList = t.data.toList.drop k := by
  have hsz : t.data.toList.length = t.size := by rw [Array.length_toList]; rfl
  simp only [ByteArray.data_extract, Array.toList_extract, List.extract_eq_take_drop]
  exact List.take_of_length_le (by simp)
def sLen : Value → Nat | .string s => s.size | _ => 0
set_option maxHeartbeats 1600000 in
theorem sess_writeName (p : Nat) (v : Value) (l : List UInt8) (s : ByteArray) (w : World) (h : Wr p v l w) (hl : l.length + (nameB s.data.toList).length + 8 ≤ 140737488355328) :
    Calls Try.prog 23 #[.pointer (some ⟨p, 0, none⟩), .string s] w fun e w' => e = .returned (.tuple #[]) ∧ ∃ v', Wr p v' (l ++ nameB s.data.toList) w' ∧ Wrote p v w v' w' := by
  have HL := Lib.hid hl
  have HC := Lib.hid (fun (v : Value) (l : List UInt8) (s : ByteArray) (w : World) (h : Wr p v l w) (hl : l.length + s.size + 8 ≤ 140737488355328) => writer_text p v l s w h hl)
  have HW := Lib.hid h
  clear h hl
  go_enter Try.func23, Try.ntmps23
  go_wp2
  go_loopw [1] (fun x wr => ∃ (t : ByteArray) (acc : List UInt8) (vr : Value), x = .string t ∧ l ++ nameB s.data.toList = acc ++ nameB t.data.toList ∧ Wr p vr acc wr ∧ Wrote p v w vr wr) (fun x _ => sLen x)
  case atStart => exact ⟨s, l, v, rfl, rfl, HW.out, Wrote.refl _ _ _⟩
  case round =>
    obtain ⟨t, acc, vr, rfl, he, hW, hT⟩ := hrel
    have hsz : t.data.toList.length = t.size := by rw [Array.length_toList]; rfl
    have HLt : acc.length + (nameB t.data.toList).length + 8 ≤ 140737488355328 := by
      have := congrArg List.length he
      have := HL.out
      simp only [List.length_append] at *
      omega
    have HX := Lib.hid he; have HW1 := Lib.hid hW; have HT1 := Lib.hid hT; have HLt1 := Lib.hid HLt; have HS := Lib.hid hsz
    clear he hW hT HLt hsz
    by_cases hlt : (65535 : Int) ≤ (t.size : Int)
    · have hE : 65535 ≤ t.data.toList.length := by have := HS.out; omega
      have hN := nameB_long hE
      have hL1 := congrArg List.length hN
      rw [List.length_append, textBytes_length, List.length_take, Nat.min_eq_left hE] at hL1
      have hx : (t.extract 0 65535).size = 65535 := by
        have h1 := congrArg List.length (ba_take t 65535)
        rw [List.length_take, Nat.min_eq_left hE, Array.length_toList] at h1
        exact h1
      have hy : (t.extract 65535 t.size).size = t.size - 65535 := by
        have h1 := congrArg List.length (ba_drop t 65535)
        rw [List.length_drop, HS.out, Array.length_toList] at h1
        exact h1
      have HN := Lib.hid hN; have HL1 := Lib.hid hL1; have HX1 := Lib.hid hx; have HY := Lib.hid hy; have HE := Lib.hid hE
      clear hE hN hL1 hx hy
      go_wp2_with (refine (HC.out vr acc _ _ HW1.out (by have := HL1.out; have := HX1.out; have := HLt1.out; have := nameB_pos (List.drop 65535 t.data.toList); omega)).mono ?_; rintro e w' ⟨rfl, v1, hW2, hT2⟩)
      refine ⟨⟨_, acc ++ textBytes (t.extract 0 65535).data.toList, v1, rfl, ?_, hW2, HT1.out.trans hT2⟩, ?_⟩
      · rw [HX.out, HN.out, ba_take, ba_drop, List.append_assoc]
      · show (t.extract 65535 t.size).size < t.size
        have := HY.out; have := HE.out; have := HS.out; omega
    · have hN : nameB t.data.toList = textBytes t.data.toList := nameB_short (by have := HS.out; omega)
      have HN := Lib.hid hN
      clear hN
      go_wp2_with (refine (HC.out vr acc _ _ HW1.out (by have h1 := HLt1.out; rw [HN.out, textBytes_length, HS.out] at h1; omega)).mono ?_; rintro e w' ⟨rfl, v1, hW2, hT2⟩)
      go_end0
      refine ⟨rfl, v1, ?_, HT1.out.trans hT2⟩
      rw [HX.out, HN.out]
      exact hW2
def valA : Value → Nat | .slice _ n _ => n | _ => 0
set_option maxHeartbeats 1600000 in
theorem sess_readName (p : Nat) (A : Option Addr) (n cap : Nat) (L : List UInt8) (why pos : Nat) (w : World) (h : Rd p A n cap L why pos w) :
    Calls Try.prog 19 #[.pointer (some ⟨p, 0, none⟩)] w fun e w' => e = .returned (.string ⟨(rdName L why pos).1.toArray⟩) ∧ Rd p A n cap L (rdName L why pos).2.1 (rdName L why pos).2.2 w' ∧ But [p] w w' := by
  have HC := Lib.hid (fun (why pos : Nat) (w : World) (h : Rd p A n cap L why pos w) => reader_text 65535 w h (Nat.le_refl _))
  have HW := Lib.hid h
  have hlen := h.bs.len
  have hsm := h.small
  have HLn := Lib.hid hlen; have HSm := Lib.hid hsm
  clear h hlen hsm
  go_enter Try.func19, Try.ntmps19
  go_wp2
  go_loopw [3] (fun x wr => ∃ (acc : List UInt8) (why' pos' : Nat), Row wr x acc ∧ (∀ g, x.ownBlock = some g → w.heap.size ≤ g) ∧ Rd p A n cap L why' pos' wr ∧ rdName L why pos = (acc ++ (rdName L why' pos').1, (rdName L why' pos').2) ∧ But [p] w wr ∧ acc.length ≤ pos') (fun x _ => n + 1 - valA x)
  case atStart => exact ⟨[], why, pos, Row.nil_ _, (fun g hg => by cases hg), HW.out, rfl, But.refl _ _, Nat.zero_le _⟩
  case round =>
    rename_i wr
    obtain ⟨acc, why', pos', hR, hfr, hRd, hN, hB, hle⟩ := hrel
    obtain ⟨Ax, cx, rfl, hBs, hO, _⟩ := hR.bs
    have hpw := HW.out.lt
    have hin := hRd.inside
    have hP := rdText_pos (L := L) (why := why') (pos := pos') (by rw [HLn.out]; exact hin)
    have hPl := rdText_le L why' pos'
    have hS : pos' + (rdText L why' pos' 65535).1.length ≤ (rdText L why' pos' 65535).2.2 := by
      by_cases he : (rdText L why' pos' 65535).1 = []
      · rw [he]; simpa using hP.1
      · rw [(rdText_some he).1]; simp only; omega
    have HC1 := HC.out why' pos' wr hRd
    have hshort := rdName_short (L := L) (why := why') (pos := pos')
    have hlong := rdName_long (L := L) (why := why') (pos := pos')
    obtain ⟨t, ht⟩ : ∃ t : ByteArray, t = ⟨(rdText L why' pos' 65535).1.toArray⟩ := ⟨_, rfl⟩
    have htl : t.data.toList = (rdText L why' pos' 65535).1 := by rw [ht]
    have hts : t.size = (rdText L why' pos' 65535).1.length := by rw [← htl, Array.length_toList]; rfl
    rw [← ht] at HC1
    generalize rdText L why' pos' 65535 = P at *
    obtain ⟨pc, why2, pos2⟩ := P
    simp only at *
    rw [← htl] at hshort hlong hPl hS
    have hAp : ∀ g, (Value.slice Ax acc.length cx).ownBlock = some g → g ∉ [p] := fun g hg hm => by
      have := hfr g hg
      simp at hm; omega
    have HC2 := Lib.hid HC1; have HR := Lib.hid hR; have HN := Lib.hid hN; have HB := Lib.hid hB; have HAp := Lib.hid hAp; have HFr := Lib.hid hfr
    have HSh := Lib.hid hshort; have HLo := Lib.hid hlong; have HTs := Lib.hid hts; have HTl := Lib.hid htl; have HP := Lib.hid hP; have HS := Lib.hid hS; have HPl := Lib.hid hPl
    have hb : acc.length + t.size ≤ 140737488355328 := by
      have h1 := HLn.out; have h2 := HSm.out; rw [htl] at hS; omega
    clear HC1 hR hN hB hAp hshort hlong ht htl hts hP hS hPl hRd hfr hBs hO
    have HLL : Hid ((acc ++ t.data.toList).length = acc.length + t.size) := Lib.hid (by rw [List.length_append, Array.length_toList]; rfl)
    by_cases hlt : (t.size : Int) < 65535
    · go_wp2_with (first | (refine HC2.out.mono ?_; rintro e w1 ⟨rfl, hRd1, hB1⟩) | (at_builtin; refine wpList_append_str rfl (.tmp 7) (.tmp 8) rfl Try.underlying32 Try.underlying9 Try.infoU8 _ acc rfl (HR.out.but hB1 HAp.out) t rfl hb ?_; intro v2 w2 hr2 hb2 hs2; obtain ⟨A2, cap2, rfl, hBs2, hO2, _⟩ := hr2.bs; rw [HLL.out] at hBs2; have q2 := hBs2.str (P := Try.prog) 32 9 5 Try.underlying32 Try.underlying5 Try.underlying9; have HBs2 := Lib.hid hBs2; clear hBs2))
      have hb3 : But (foot (.slice Ax acc.length cx)) w1 w2 := hb2
      have hs3 : Sprung w1 (.slice Ax acc.length cx) (.slice A2 (acc.length + t.size) cap2) := by have h := hs2; rw [HLL.out] at h; exact h
      have hfoot : ∀ x ∈ foot (.slice Ax acc.length cx), w.heap.size ≤ x := fun x hx => HFr.out x (mem_foot.1 hx)
      have hpw := HW.out.lt
      have hap := HW.out.apart
      have hRd2 := hRd1.but hb3 (fun hm => by have := hfoot _ hm; omega) (fun ad e hm => by have := hfoot _ hm; have := (hap ad e).2; omega)
      have hB2 : But [p] w w2 := (HB.out.then hB1).trans hb3 (fun x hx => .inr (hfoot x hx))
      go_ret
      rw [HSh.out (by rw [HTl.out, ← HTs.out]; omega)] at HN
      have hN := HN.out
      rw [hN]
      simp only
      refine ⟨?_, hRd2, hB2⟩
      show Ending.returned (.string ⟨(acc ++ t.data.toList).toArray⟩) = _
      rw [HTl.out]
    · have hlt2 : ((t.size : Int) < 65535) = False := by simp; omega
      go_wp2_with (first | (refine HC2.out.mono ?_; rintro e w1 ⟨rfl, hRd1, hB1⟩) | (at_builtin; refine wpList_append_str rfl (.tmp 7) (.tmp 8) rfl Try.underlying32 Try.underlying9 Try.infoU8 _ acc rfl (HR.out.but hB1 HAp.out) t rfl hb ?_; intro v2 w2 hr2 hb2 hs2; obtain ⟨A2, cap2, rfl, hBs2, hO2, _⟩ := hr2.bs; rw [HLL.out] at hBs2; have q2 := hBs2.str (P := Try.prog) 32 9 5 Try.underlying32 Try.underlying5 Try.underlying9; have HBs2 := Lib.hid hBs2; clear hBs2))
      have hb3 : But (foot (.slice Ax acc.length cx)) w1 w2 := hb2
      have hs3 : Sprung w1 (.slice Ax acc.length cx) (.slice A2 (acc.length + t.size) cap2) := by have h := hs2; rw [HLL.out] at h; exact h
      have hfoot : ∀ x ∈ foot (.slice Ax acc.length cx), w.heap.size ≤ x := fun x hx => HFr.out x (mem_foot.1 hx)
      have hpw := HW.out.lt
      have hap := HW.out.apart
      have hRd2 := hRd1.but hb3 (fun hm => by have := hfoot _ hm; omega) (fun ad e hm => by have := hfoot _ hm; have := (hap ad e).2; omega)
      have hB2 : But [p] w w2 := (HB.out.then hB1).trans hb3 (fun x hx => .inr (hfoot x hx))
      have hl := HLo.out (by rw [HTl.out, ← HTs.out]; omega)
      have hsz : t.data.toList.length = t.size := by rw [Array.length_toList]; rfl
      have hle2 : acc.length + t.size ≤ pos2 := by have := HS.out; rw [HTl.out, ← HTs.out] at this; omega
      have hp2 : pos2 ≤ n := by have := HP.out.2; have := HLn.out; omega
      refine ⟨⟨acc ++ t.data.toList, why2, pos2, ?_, fun g hg => ?_, hRd2, ?_, hB2, by rw [HLL.out]; exact hle2⟩, ?_⟩
      · have h := hr2; rw [HLL.out] at h; exact h
      · rcases hs3 g hg with h | h
        · exact HFr.out g h
        · exact Nat.le_trans (HB.out.then hB1).size h
      · rw [HN.out, hl]; simp only [List.append_assoc]
      · show n + 1 - (acc.length + t.size) < n + 1 - acc.length
        omega
set_option maxRecDepth 100000 in
/-- bytes.Clone: a copy in a row of its own. -/
theorem clone_row (A : Option Addr) (n cap : Nat) (l : List UInt8) (w : World) (h : Bs w A n cap l) (hn : n ≤ 140737488355328) :
    Calls Try.prog 25 #[.slice A n cap] w fun e w' => ∃ A' cap', e = .returned (.slice A' n cap') ∧ Row w' (.slice A' n cap') l ∧ New w w' A' ∧ Ev w w' := by
  have hl := h.len
  have q22 : ∀ (w : World) (a : Option Addr) (n c n' c' : Nat), (binOp .eql 32 (.slice a n c) (.slice none n' c')).run Try.prog w = .ok (.bool a.isNone) w := fun w a n c n' c' => Lib.run_eql_slice_nil w 32 5 a n c n' c' Try.underlying32
  cases A with
  | none =>
    obtain ⟨rfl, rfl⟩ := h.nil rfl
    clear hl
    go_enter Try.func25, Try.ntmps25
    go_wp2
    go_ret
    exact ⟨none, 0, rfl, (by have e : l = [] := List.eq_nil_of_length_eq_zero h.len
                             subst e; exact Row.nil_ _), (fun _ e => by cases e), Ev.refl _⟩
  | some ad =>
    have HL := Lib.hid hl
    clear hl
    go_enter Try.func25, Try.ntmps25
    have hE : Row (w.alloc (.cells #[] 5)) (.slice (some ⟨w.heap.size, 0, none⟩) 0 0) [] := Row.of (base := 0) (World.ownsRow_made w #[] 0 (Nat.zero_le _) (by unfold maxLen; omega) rfl)
    go_wp2_with (at_builtin; refine wpList_append_row rfl (.tmp 5) (.tmp 6) rfl Try.underlying32 Try.infoU8 (.slice (some ⟨w.heap.size, 0, none⟩) 0 0) [] rfl hE (some ad) n cap l rfl (h.below (Ev.alloc _ _)) (by rw [HL.out]; simpa using hn) ?_; intro v1 w1 hr1 hb1 hs1; obtain ⟨A1, cap1, rfl, hB1, hO1, _⟩ := hr1.bs)
    go_ret
    have hl := HL.out
    simp only [List.nil_append] at hB1 hr1 ⊢
    rw [hl] at hB1 hr1 ⊢
    refine ⟨A1, cap1, rfl, hr1, fun x hx => ⟨?_, hr1.lt (by rw [hx]; rfl)⟩, (But.ev (K := [w.heap.size]) ((But.alloc (K := [w.heap.size]) _).then (hb1.wide (by simp [foot, Value.ownBlock]))) (by simp))⟩
    rcases hs1 x.block (by rw [hx]; rfl) with h3 | h3
    · simp [Value.ownBlock] at h3; omega
    · simp at h3; omega


set_option maxRecDepth 100000 in
theorem writer_done_row (p : Nat) (v : Value) (l : List UInt8) (w : World) (h : Wr p v l w) (hl : l.length ≤ 140737488355328) :
    Calls Try.prog 24 #[.pointer (some ⟨p, 0, none⟩)] w fun e w' => ∃ A' cap', e = .returned (.slice A' l.length cap') ∧ Row w' (.slice A' l.length cap') l ∧ New w w' A' ∧ Ev w w' := by
  have hc := h.cell
  obtain ⟨A, cap, rfl, hB, _⟩ := h.2.bs
  have HC := Lib.hid (clone_row A l.length cap l w hB hl)
  generalize l.length = n at *
  go_enter Try.func24, Try.ntmps24
  go_wp2_with (refine HC.out.mono ?_; rintro x w1 ⟨A1, cap1, rfl, hB1, hA1, hE1⟩)
  go_ret
  exact ⟨A1, cap1, rfl, hB1, hA1, hE1⟩
end Go.Proofs.Ytdfoangkjeoomaa
