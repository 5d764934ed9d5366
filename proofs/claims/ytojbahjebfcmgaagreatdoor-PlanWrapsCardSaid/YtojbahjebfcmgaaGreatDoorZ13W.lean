/-
  Texts that belong together: Package sexp: texts. Package sexp: tokens. Trees in memory; the list of what is open. Package sexp: whole, judge. Own slices of any elements: what they hold, append of any slice onto them, a store into one cell, '[:m]'.
-/
import Derived.ScopeJumps
import Derived.Deep.Cut
import Derived.Test.YtojbahjebfcmgaaGreatDoorZ11W
namespace Go.Proofs.YtojbahjebfcmgaaGreatDoor
open Go.RowKit
set_option linter.unusedVariables false

/-- A scope with one label to which it jumps back: what holds there is said of the slots s; the code behind the label is walked once. -/
theorem wp_scope_once {P : Program} {c R : Code} {Q : Exit → Act → World → Prop} {a : Act} {w : World} (l n : Nat) (JJ : (Nat → Value) → World → Prop) (μ : (Nat → Value) → World → Nat) (hf : findLabel c l = some (.seq .skip R))
    (pass : ∀ s w, JJ s w → R.wp P (Exit.jump l (fun a' w' => (a'.defers = [] ∧ a'.tmps.size = n ∧ JJ (fun d => a'.eval (.tmp d)) w') ∧ μ (fun d => a'.eval (.tmp d)) w' < μ s w) Q) ⟨((List.range n).map s).toArray, []⟩ w)
    (first : (∀ (a : Act) w, a.defers = [] → a.tmps.size = n → JJ (fun d => a.eval (.tmp d)) w → R.wp P (Exit.jump l (fun a' w' => a'.defers = [] ∧ a'.tmps.size = n ∧ JJ (fun d => a'.eval (.tmp d)) w') Q) a w) →
      c.wp P (Exit.jump l (fun a' w' => a'.defers = [] ∧ a'.tmps.size = n ∧ JJ (fun d => a'.eval (.tmp d)) w') Q) a w) : (Code.scope c).wp P Q a w := by
  have pass' : ∀ (a : Act) w, (a.defers = [] ∧ a.tmps.size = n ∧ JJ (fun d => a.eval (.tmp d)) w) → R.wp P (Exit.jump l (fun a' w' => (a'.defers = [] ∧ a'.tmps.size = n ∧ JJ (fun d => a'.eval (.tmp d)) w') ∧ (fun (a : Act) w => μ (fun d => a.eval (.tmp d)) w) a' w' < (fun (a : Act) w => μ (fun d => a.eval (.tmp d)) w) a w) Q) a w := by
    rintro a w ⟨h1, h2, h3⟩
    have := pass (fun d => a.eval (.tmp d)) w h3
    have e : a = ⟨((List.range n).map fun d => a.eval (.tmp d)).toArray, []⟩ := by rw [← h1]; exact frame_eq h2
    rw [← e] at this
    exact this
  refine wp_scope_jumps l _ (fun a w => μ (fun d => a.eval (.tmp d)) w) hf (first fun a w h1 h2 h3 => Code.wp_mono ?_ (pass' a w ⟨h1, h2, h3⟩)) (fun a w h => wp_seq (wp_skip (pass' a w h)))
  intro e a' w' h
  cases e with
  | goto l' => exact ⟨h.1, h.2.1⟩
  | _ => exact h

theorem sxText_esc (B : By) (c : UInt8) (q : By) (i : Nat) (hp : sxPlain c = false) (hc : c.toNat = 92) : sxTextGo B (c :: q) i =
    if (sxEscaped q).2 = 0 then sxTextGo (B ++ [(sxEscaped q).1]) (q.drop 2) (i + 3) else if (sxEscaped q).2 = 10 then sxWrong 10 (i + 1 + q.length) else sxWrong 12 i := by
  conv => lhs; unfold sxTextGo
  rw [hp]
  simp only [Bool.false_eq_true, if_false, hc]
  cases q with
  | nil => simp [sxEscaped]
  | cons x q1 =>
    cases hx : sxHex x with
    | none => simp [sxEscaped, hx]
    | some a =>
      cases q1 with
      | nil => simp [sxEscaped, hx]
      | cons y q2 =>
        cases hy : sxHex y with
        | none => simp [sxEscaped, hx, hy]
        | some b => simp [sxEscaped, hx, hy]
theorem sxEsc_why (q : By) : (sxEscaped q).2 = 0 ∨ (sxEscaped q).2 = 10 ∨ (sxEscaped q).2 = 12 := by
  cases q with
  | nil => simp [sxEscaped]
  | cons x q1 =>
    cases hx : sxHex x with
    | none => simp [sxEscaped, hx]
    | some a =>
      cases q1 with
      | nil => simp [sxEscaped, hx]
      | cons y q2 =>
        cases hy : sxHex y with
        | none => simp [sxEscaped, hx, hy]
        | some b => simp [sxEscaped, hx, hy]

theorem sxEsc_len (q : By) : (sxEscaped q).2 = 0 → 2 ≤ q.length := by
  cases q with
  | nil => simp [sxEscaped]
  | cons x q1 =>
    cases q1 with
    | nil => cases hx : sxHex x <;> simp [sxEscaped, hx]
    | cons y q2 => intro _; simp
/-- In the midst of a text: what has been read lies in a row of its own. -/
structure TxSt (g : Nat) (w0 : World) (A : Option Addr) (n cap : Nat) (b : By) (w : World) : Prop where
  row : Row w (.slice A n cap) b
  len : b.length = n
  high : ∀ k, (Value.slice A n cap).ownBlock = some k → g < k
  box : TkBox g (sxWrong 0 0) w
  ev : Ev w0 w
  base : w0.heap.size ≤ g
theorem TxSt.step {g : Nat} {w0 w w1 : World} {A : Option Addr} {n cap : Nat} {b B1 : By} {v1 : Value} (h : TxSt g w0 A n cap b w) (hr : Row w1 v1 B1) (hb : But (foot (.slice A n cap)) w w1) (hs : Sprung w (.slice A n cap) v1) :
    ∃ A1 n1 cap1, v1 = .slice A1 n1 cap1 ∧ TxSt g w0 A1 n1 cap1 B1 w1 := by
  obtain ⟨A1, cap1, rfl, _, _, _⟩ := hr.bs
  have hl := h.box.lt
  refine ⟨A1, _, cap1, rfl, hr, rfl, fun k hk => ?_, h.box.but hb (fun hm => Nat.lt_irrefl _ (h.high _ (mem_foot.1 hm))), ?_, h.base⟩
  · rcases hs k hk with h1 | h1
    · exact h.high k h1
    · omega
  · exact ((But.of_ev (K := foot (.slice A n cap)) h.ev).then hb).ev fun k hk => by have := h.high k (mem_foot.1 hk); have := h.base; omega
theorem TxSt.evs {g : Nat} {w0 w w1 : World} {A : Option Addr} {n cap : Nat} {b : By} (h : TxSt g w0 A n cap b w) (hE : Ev w w1) : TxSt g w0 A n cap b w1 :=
  ⟨h.row.ev hE, h.len, h.high, h.box.ev hE, h.ev.trans hE, h.base⟩

theorem sx_wrong_raw (why : Int) (fault : Nat) (w : World) :
    Calls Tryz.prog 97 #[.int .i64 why, .int .i64 (fault : Int)] w fun e w' => e = .returned (.agg #[.int .i64 0, .string ⟨#[]⟩, .int .i64 0, .slice none 0 0, .int .i64 0, .int .i64 0, .int .i64 why, .int .i64 (fault : Int)]) ∧ Ev w w' := sx_wrong why fault w
theorem sx_made_byte (w : World) (x : UInt8) : Bs (w.alloc (.cells #[.int .u8 (x.toNat : Int)] 5)) (some ⟨w.heap.size, 0, none⟩) 1 1 [x] := Bs.made [x] _ rfl (by simp)
theorem sx_drop_cons (l : By) (j : Nat) (c : UInt8) (h : l[j]? = some c) : l.drop j = c :: l.drop (j + 1) := by
  obtain ⟨hj, e⟩ := List.getElem?_eq_some_iff.1 h
  rw [List.drop_eq_getElem_cons hj, e]

set_option maxRecDepth 100000 in
set_option maxHeartbeats 4000000 in
theorem sx_text (s0 : ByteArray) (w : World) (h1s : 1 ≤ s0.size) (hs : s0.size ≤ 100000) :
    Calls Tryz.prog 92 #[.string s0] w fun e w' => e = .returned (tkv (sxTextGo [] (s0.data.toList.drop 1) 1)) ∧ Ev w w' := by
  have hll : s0.data.toList.length = s0.size := by rw [Array.length_toList]; rfl
  obtain ⟨Y, hY⟩ : ∃ Y, Y = sxTextGo [] (s0.data.toList.drop 1) 1 := ⟨_, rfl⟩
  rw [← hY]
  have HY := Lib.hid hY
  have HL := Lib.hid hll
  clear hY hll
  go_enter Tryz.func92, Tryz.ntmps92
  go_wp2
  refine wp_scope_once 0 78 (fun s w2 => s 0 = .string s0 ∧ s 2 = .pointer (some ⟨w.heap.size, 0, none⟩) ∧ ∃ (b : By) (i n cap : Nat) (A : Option Addr), s 3 = .slice A n cap ∧ s 4 = .int .i64 (i : Int) ∧ 1 ≤ i ∧ i ≤ s0.size ∧ n ≤ i ∧ TxSt w.heap.size w A n cap b w2 ∧ Hid (Y = sxTextGo b (s0.data.toList.drop i) i)) (fun s _ => s0.size - (intOf (s 4)).toNat) rfl ?_ ?_
  · rintro s w2 ⟨h0, h2, b, i, n, cap, A, h3, h4, hi1, hi, hni, ST, HT⟩
    change Code.wp _ _ _ ⟨#[s 0, s 1, s 2, s 3, s 4, s 5, s 6, s 7, s 8, s 9, s 10, s 11, s 12, s 13, s 14, s 15, s 16, s 17, s 18, s 19, s 20, s 21, s 22, s 23, s 24, s 25, s 26, s 27, s 28, s 29, s 30, s 31, s 32, s 33, s 34, s 35, s 36, s 37, s 38, s 39, s 40, s 41, s 42, s 43, s 44, s 45, s 46, s 47, s 48, s 49, s 50, s 51, s 52, s 53, s 54, s 55, s 56, s 57, s 58, s 59, s 60, s 61, s 62, s 63, s 64, s 65, s 66, s 67, s 68, s 69, s 70, s 71, s 72, s 73, s 74, s 75, s 76, s 77], []⟩ _
    simp only [h0, h2, h3, h4]
    clear h0 h2
    obtain ⟨r, hr⟩ : ∃ r : ByteArray, r = s0.extract i s0.size := ⟨_, rfl⟩
    have hx : s0.extract i s0.size = r := hr.symm
    have hrl : r.data.toList = s0.data.toList.drop i := by rw [hr, Lib.extract_eq, List.take_of_length_le (by rw [List.length_drop, HL.out]; exact Nat.le_refl _)]
    have hrz : r.size = s0.size - i := by
      have : r.data.toList.length = r.size := by rw [Array.length_toList]; rfl
      rw [← this, hrl, List.length_drop, HL.out]
    have HR := Lib.hid (fun w1 => sx_run_isPlain r w1 (by omega))
    rw [hrl] at HR
    have hple := sxRun_le sxPlain (s0.data.toList.drop i)
    have hstop := fun c h => sxRun_stop sxPlain (s0.data.toList.drop i) c h
    have hgo := sxTextGo_run (s0.data.toList.drop i) b i
    rw [← HT.out, List.drop_drop] at hgo
    rw [List.length_drop, HL.out] at hple
    generalize hp : sxRun sxPlain (s0.data.toList.drop i) = p at *
    have hml : (s0.extract i (i + p)).data.toList = (s0.data.toList.drop i).take p := by rw [Lib.extract_eq, show i + p - i = p by omega]
    have hmz : (s0.extract i (i + p)).size = p := by
      have : (s0.extract i (i + p)).data.toList.length = (s0.extract i (i + p)).size := by rw [Array.length_toList]; rfl
      rw [← this, hml, List.length_take, List.length_drop, HL.out]
      omega
    have hstop' : ∀ c, s0.data.toList[i + p]? = some c → sxPlain c = false := fun c h => hstop c (by rw [List.getElem?_drop]; exact h)
    have HS := Lib.hid hstop'
    have HG := Lib.hid hgo
    have HM := Lib.hid hml
    have HB := Lib.hid ST.len
    have HZ := Lib.hid hmz
    clear hstop hstop' hgo hr hrl hp hml hmz HT
    go_upto_region 6 with (first
      | ((with_reducible refine (HR.out _).mono ?_); rintro e w3 ⟨rfl, rfl⟩)
      | ((show wpList _ _ _ (⟨some 19, _, _, _, _, _⟩ :: _) _ _); refine wpList_append_str (o := ⟨some 19, _, _, _, _, _⟩) rfl (.tmp 12) (.tmp 18) rfl Tryz.underlying139 Tryz.underlying9 Tryz.infoU8 (.slice A n cap) b rfl ST.row (s0.extract i (i + p)) rfl (by rw [HB.out, HZ.out]; omega) ?_; intro v1 w3 hr1 hb1 hs1; obtain ⟨A1, n1, cap1, rfl, ST1⟩ := ST.step hr1 hb1 hs1))
    rw [HM.out] at ST1
    have hn1 : n1 ≤ i + p := by
      rw [← ST1.len, List.length_append, List.length_take, HB.out]
      omega
    have hj : i + p ≤ s0.size := by omega
    have e1 : (i : Int) + (p : Int) = ((i + p : Nat) : Int) := by omega
    simp only [e1]
    generalize b ++ (s0.data.toList.drop i).take p = B1 at *
    have hij : i ≤ i + p := by omega
    generalize i + p = j at *
    clear hr1 hs1 hb1 HM HZ HR ST e1
    by_cases hjz : j = s0.size
    · have HSP : Hid (Y = sxWrong 10 s0.size) := Lib.hid (by
        rw [HG.out, List.drop_of_length_le (by rw [HL.out]; omega), hjz]
        rfl)
      have e2 : (j : Int) = (s0.size : Int) := by omega
      have HW := Lib.hid (fun w1 => sx_wrong_raw 10 s0.size w1)
      clear HG hjz
      go_wp2_with (first | ((with_reducible refine (HW.out _).mono ?_); rintro e w4 ⟨rfl, hE4⟩; have B4 := (ST1.evs hE4).box; have E4 := (ST1.evs hE4).ev; obtain ⟨c0, c1, c2, c3, c4, c5, c6, c7⟩ := B4.cs; obtain ⟨f0, f1, f2, f3, f4, f5, f6, f7⟩ := B4.fs))
      simp only [Exit.jump]
      rw [tkSet_fold]; refine bodyPost_ret (tk_done _ B4 _ _ _ _ _ _ rfl rfl) rfl ?_; exact ⟨by rw [HSP.out]; rfl, E4.over1 (tkSet_but _ _ _ _ _ _ _ _) (Nat.le_refl _)⟩
    · have hlt : j < s0.size := by omega
      have hat := sx_at s0 j hlt
      obtain ⟨c, hc⟩ : ∃ c, s0[j] = c := ⟨_, rfl⟩
      have hidx : ∀ hh, s0[j]'hh = c := fun _ => hc
      rw [hc] at hat
      have hpl := HS.out c hat
      have hdr := sx_drop_cons _ _ _ hat
      clear hc
      have e2 : ¬ ((j : Int) = (s0.size : Int)) := by omega
      have e2' : ((j : Int) == (s0.size : Int)) = false := beq_eq_false_iff_ne.2 e2
      have hjm : j ≤ 100000 := by omega
      by_cases h92 : c.toNat = 92
      · have hsp := sxText_esc B1 c (s0.data.toList.drop (j + 1)) j hpl h92
        rw [← hdr, ← HG.out] at hsp
        have e3 : (c.toNat : Int) = 92 := by omega
        obtain ⟨y, hy⟩ : ∃ y : ByteArray, y = s0.extract (j + 1) s0.size := ⟨_, rfl⟩
        have hxy : s0.extract (j + 1) s0.size = y := hy.symm
        have hyl : y.data.toList = s0.data.toList.drop (j + 1) := by rw [hy, Lib.extract_eq, List.take_of_length_le (by rw [List.length_drop, HL.out]; exact Nat.le_refl _)]
        have hyz : y.size = s0.size - (j + 1) := by
          have : y.data.toList.length = y.size := by rw [Array.length_toList]; rfl
          rw [← this, hyl, List.length_drop, HL.out]
        have HE := fun w1 => sx_escaped y w1 (by omega)
        rw [hyl] at HE
        rw [List.length_drop, HL.out, List.drop_drop] at hsp
        have hwhy := sxEsc_why (s0.data.toList.drop (j + 1))
        have hlen := sxEsc_len (s0.data.toList.drop (j + 1))
        rw [List.length_drop, HL.out] at hlen
        generalize sxEscaped (s0.data.toList.drop (j + 1)) = R at *
        obtain ⟨x, why⟩ := R
        simp only at HE hsp hwhy hlen
        have HE := Lib.hid HE
        have HSP := Lib.hid hsp
        clear hsp hy hyl hat hdr hpl HG
        rcases hwhy with rfl | rfl | rfl
        · have hj3 : j + 3 ≤ s0.size := by have := hlen rfl; omega
          have HB1 := Lib.hid (sx_made_byte w3 x)
          have HLN := Lib.hid ST1.len
          have HSQ : Hid (Y = sxTextGo (B1 ++ [x]) (s0.data.toList.drop (j + 3)) (j + 3)) := Lib.hid (by rw [HSP.out]; rfl)
          clear HSP hlen
          go_wp2_with (first
            | ((with_reducible refine (HE.out _).mono ?_); rintro e w4 ⟨rfl, rfl⟩)
            | ((show wpList _ _ _ (⟨some 57, _, _, _, _, _⟩ :: _) _ _); refine wpList_append_row (o := ⟨some 57, _, _, _, _, _⟩) rfl (.tmp 54) (.tmp 56) rfl Tryz.underlying139 Tryz.infoU8 (.slice A1 n1 cap1) B1 rfl (ST1.row.ev (Ev.alloc _ _)) (some ⟨w3.heap.size, 0, none⟩) 1 1 [x] rfl HB1.out (by rw [HLN.out]; simp; omega) ?_; intro v2 w5 hr2 hb2 hs2; obtain ⟨A2, n2, cap2, rfl, ST2⟩ := (ST1.evs (Ev.alloc _ _)).step hr2 hb2 hs2))
          go_step3
          exact ⟨rfl, ⟨rfl, rfl, rfl, rfl, B1 ++ [x], j + 3, n2, cap2, A2, rfl, rfl, by omega, hj3, by rw [← ST2.len, List.length_append, HLN.out]; simp; omega, ST2, HSQ⟩, by simp [Act.eval, intOf]; omega⟩
        · have HSQ : Hid (Y = sxWrong 10 s0.size) := Lib.hid (by rw [HSP.out]; simp; rw [show j + 1 + (s0.size - (j + 1)) = s0.size by omega])
          clear HSP hlen
          have HSP := HSQ
          clear HSQ
          have HW := Lib.hid (fun w1 => sx_wrong_raw 10 s0.size w1)
          go_wp2_with (first
            | ((with_reducible refine (HE.out _).mono ?_); rintro e w4 ⟨rfl, rfl⟩)
            | ((with_reducible refine (HW.out _).mono ?_); rintro e w4 ⟨rfl, hE4⟩; have B4 := (ST1.evs hE4).box; have E4 := (ST1.evs hE4).ev; obtain ⟨c0, c1, c2, c3, c4, c5, c6, c7⟩ := B4.cs; obtain ⟨f0, f1, f2, f3, f4, f5, f6, f7⟩ := B4.fs))
          simp only [Exit.jump]
          rw [tkSet_fold]; refine bodyPost_ret (tk_done _ B4 _ _ _ _ _ _ rfl rfl) rfl ?_; exact ⟨by rw [HSP.out]; rfl, E4.over1 (tkSet_but _ _ _ _ _ _ _ _) (Nat.le_refl _)⟩
        · have HSQ : Hid (Y = sxWrong 12 j) := Lib.hid (by rw [HSP.out]; simp)
          clear HSP hlen
          have HSP := HSQ
          clear HSQ
          have HW := Lib.hid (fun w1 => sx_wrong_raw 12 j w1)
          go_wp2_with (first
            | ((with_reducible refine (HE.out _).mono ?_); rintro e w4 ⟨rfl, rfl⟩)
            | ((with_reducible refine (HW.out _).mono ?_); rintro e w4 ⟨rfl, hE4⟩; have B4 := (ST1.evs hE4).box; have E4 := (ST1.evs hE4).ev; obtain ⟨c0, c1, c2, c3, c4, c5, c6, c7⟩ := B4.cs; obtain ⟨f0, f1, f2, f3, f4, f5, f6, f7⟩ := B4.fs))
          simp only [Exit.jump]
          rw [tkSet_fold]; refine bodyPost_ret (tk_done _ B4 _ _ _ _ _ _ rfl rfl) rfl ?_; exact ⟨by rw [HSP.out]; rfl, E4.over1 (tkSet_but _ _ _ _ _ _ _ _) (Nat.le_refl _)⟩
      · have h92' : (c.toNat == 92) = false := beq_eq_false_iff_ne.2 h92
        have e3 : ¬ ((c.toNat : Int) = 92) := by omega
        have e3' : ((c.toNat : Int) == 92) = false := beq_eq_false_iff_ne.2 e3
        by_cases h34 : c.toNat = 34
        · have HSP : Hid (Y = if 40 < B1.length then sxWrong 3 0 else ⟨4, B1, 0, j + 1, 0, 0⟩) := Lib.hid (by
            rw [HG.out, hdr]
            unfold sxTextGo
            rw [hpl]
            simp [h34])
          have e4 : (c.toNat : Int) = 34 := by omega
          have hln := ST1.len
          rw [hln] at HSP
          clear hdr hat HG hpl
          by_cases h40 : 40 < n1
          · have HSQ : Hid (Y = sxWrong 3 0) := Lib.hid (by rw [HSP.out, if_pos h40])
            clear HSP
            have HSP := HSQ
            clear HSQ
            have HW := fun w1 => sx_wrong_raw 3 0 w1
            rw [show (((0 : Nat) : Int)) = 0 from rfl] at HW
            have HW := Lib.hid HW
            have e5 : (40 : Int) < (n1 : Int) := by omega
            go_wp2_with (first | ((with_reducible refine (HW.out _).mono ?_); rintro e w4 ⟨rfl, hE4⟩; have B4 := (ST1.evs hE4).box; have E4 := (ST1.evs hE4).ev; obtain ⟨c0, c1, c2, c3, c4, c5, c6, c7⟩ := B4.cs; obtain ⟨f0, f1, f2, f3, f4, f5, f6, f7⟩ := B4.fs))
            simp only [Exit.jump]
            rw [tkSet_fold]; refine bodyPost_ret (tk_done _ B4 _ _ _ _ _ _ rfl rfl) rfl ?_; exact ⟨by rw [HSP.out]; rfl, E4.over1 (tkSet_but _ _ _ _ _ _ _ _) (Nat.le_refl _)⟩
          · have HSQ : Hid (Y = ⟨4, B1, 0, j + 1, 0, 0⟩) := Lib.hid (by rw [HSP.out, if_neg h40])
            clear HSP
            have HSP := HSQ
            clear HSQ
            have e5 : ¬ ((40 : Int) < (n1 : Int)) := by omega
            have B4 := ST1.box
            have E4 := ST1.ev
            obtain ⟨c0, c1, c2, c3, c4, c5, c6, c7⟩ := B4.cs
            obtain ⟨f0, f1, f2, f3, f4, f5, f6, f7⟩ := B4.fs
            obtain ⟨A1', cap1', hv, hbs, _, _⟩ := ST1.row.bs
            rw [hln] at hv hbs
            injection hv with hv1 hv2 hv3
            subst hv1
            subst hv3
            have hcv := hbs.str 139 9 5 Tryz.underlying139 Tryz.underlying5 Tryz.underlying9
            go_wp2
            simp only [Exit.jump]
            rw [tkSet_fold]; refine bodyPost_ret (tk_done _ B4 _ _ _ _ _ _ rfl rfl) rfl ?_; exact ⟨by rw [HSP.out]; rfl, E4.over1 (tkSet_but _ _ _ _ _ _ _ _) (Nat.le_refl _)⟩
        · have HSP : Hid (Y = sxWrong 12 j) := Lib.hid (by
            rw [HG.out, hdr]
            unfold sxTextGo
            rw [hpl]
            simp [h92', h34])
          have e4 : ¬ ((c.toNat : Int) = 34) := by omega
          have e4' : ((c.toNat : Int) == 34) = false := beq_eq_false_iff_ne.2 e4
          have HW := Lib.hid (fun w1 => sx_wrong_raw 12 j w1)
          clear hdr hat HG hpl
          go_wp2_with (first | ((with_reducible refine (HW.out _).mono ?_); rintro e w4 ⟨rfl, hE4⟩; have B4 := (ST1.evs hE4).box; have E4 := (ST1.evs hE4).ev; obtain ⟨c0, c1, c2, c3, c4, c5, c6, c7⟩ := B4.cs; obtain ⟨f0, f1, f2, f3, f4, f5, f6, f7⟩ := B4.fs))
          simp only [Exit.jump]
          rw [tkSet_fold]; refine bodyPost_ret (tk_done _ B4 _ _ _ _ _ _ rfl rfl) rfl ?_; exact ⟨by rw [HSP.out]; rfl, E4.over1 (tkSet_but _ _ _ _ _ _ _ _) (Nat.le_refl _)⟩
  · intro H
    go_wp2
    go_step3
    rename_i hK
    refine hK _ _ (H _ _ ?_ ?_ ?_)
    · rfl
    · rfl
    exact ⟨rfl, rfl, [], 1, 0, 0, none, rfl, rfl, by omega, h1s, by omega, ⟨Row.nil_ _, rfl, by simp [Value.ownBlock], TkBox.new (sxWrong 0 0) w, Ev.alloc _ _, Nat.le_refl _⟩, HY⟩
end Go.Proofs.YtojbahjebfcmgaaGreatDoor

namespace Go.Proofs.YtojbahjebfcmgaaGreatDoor
open Go.RowKit
set_option linter.unusedVariables false

set_option maxRecDepth 100000 in
theorem sx_clone (s : ByteArray) (w : World) (hs : s.size ≤ 100000) :
    Calls Tryz.prog 96 #[.string s] w fun e w' => e = .returned (.string s) ∧ Ev w w' := by
  have HC := Lib.hid (fun w1 => Tryz.stringslite_Clone s w1 (by omega))
  go_enter Tryz.func96, Tryz.ntmps96
  go_wp2_with (first | ((with_reducible refine (HC.out _).mono ?_); rintro x w1 ⟨rfl, hE1⟩))
  go_ret
  exact ⟨rfl, hE1⟩

set_option maxRecDepth 100000 in
set_option maxHeartbeats 2000000 in
theorem sx_scan (s0 : ByteArray) (w : World) (h1s : 1 ≤ s0.size) (hs : s0.size ≤ 100000) :
    Calls Tryz.prog 48 #[.string s0] w fun e w' => e = .returned (tkv (sxScan s0.data.toList)) ∧ Ev w w' := by
  obtain ⟨Y, hY⟩ : ∃ Y, Y = sxScan s0.data.toList := ⟨_, rfl⟩
  rw [← hY]
  have hat := sx_at s0 0 h1s
  have hTX := fun w1 => sx_text s0 w1 h1s hs
  have hNU := fun w1 => sx_number s0 w1 hs
  have hRU := fun w1 => sx_run_isLetter s0 w1 (by omega)
  have hll : s0.data.toList.length = s0.size := by rw [Array.length_toList]; rfl
  obtain ⟨c, hc⟩ : ∃ c, s0[0] = c := ⟨_, rfl⟩
  have hidx : ∀ hh, s0[0]'hh = c := fun _ => hc
  rw [hc] at hat
  clear hc
  obtain ⟨q, hl⟩ : ∃ q, s0.data.toList = c :: q := by
    cases h : s0.data.toList with
    | nil => rw [h] at hat; simp at hat
    | cons x q => rw [h] at hat; simp at hat; exact ⟨q, by rw [hat]⟩
  rw [hl] at hY hTX hNU hRU
  rw [hl] at hll
  have hrl := sxRun_le sxLetter (c :: q)
  rw [hll] at hrl
  have hDI := sx_isDigit c
  have hLE := sx_isLetter c
  have hsl : ∀ r, (s0.extract 0 r).data.toList = (c :: q).take r := fun r => by rw [Lib.extract_eq, hl]; simp
  simp only [List.drop_succ_cons, List.drop_zero] at hTX
  clear hat hl
  obtain ⟨w0, hw0⟩ : ∃ w0, w0 = w.alloc (.cells (tkc (sxWrong 0 0)) 94) := ⟨_, rfl⟩
  have B0 : TkBox w.heap.size (sxWrong 0 0) w0 := hw0 ▸ TkBox.new (sxWrong 0 0) w
  have hE0 : Ev w w0 := hw0 ▸ Ev.alloc w _
  have hw0' : w.alloc (.cells #[.int .i64 0, .string ⟨#[]⟩, .int .i64 0, .slice none 0 0, .int .i64 0, .int .i64 0, .int .i64 0, .int .i64 0] 94) = w0 := hw0.symm
  clear hw0
  by_cases h40 : c.toNat = 40
  · have HSP : Hid (Y = ⟨1, [], 0, 1, 0, 0⟩) := Lib.hid (by rw [hY]; simp [sxScan, h40])
    have e1 : (c.toNat : Int) = 40 := by omega
    have B4 := B0
    have E4 := hE0
    obtain ⟨c0, c1, c2, c3, c4, c5, c6, c7⟩ := B4.cs
    obtain ⟨f0, f1, f2, f3, f4, f5, f6, f7⟩ := B4.fs
    clear hTX hNU hRU hDI hLE hsl hY hrl hll
    go_enter Tryz.func48, Tryz.ntmps48
    go_wp2
    rw [tkSet_fold]; refine bodyPost_ret (tk_done _ B4 _ _ _ _ _ _ rfl rfl) rfl ?_; exact ⟨by rw [HSP.out]; rfl, E4.over1 (tkSet_but _ _ _ _ _ _ _ _) (Nat.le_refl _)⟩
  · have n40 : (c.toNat == 40) = false := beq_eq_false_iff_ne.2 h40
    have e1 : ¬ ((c.toNat : Int) = 40) := by omega
    have e1' : ((c.toNat : Int) == 40) = false := beq_eq_false_iff_ne.2 e1
    by_cases h41 : c.toNat = 41
    · have HSP : Hid (Y = ⟨-1, [], 0, 1, 0, 0⟩) := Lib.hid (by rw [hY]; simp [sxScan, h41])
      have e2 : (c.toNat : Int) = 41 := by omega
      have B4 := B0
      have E4 := hE0
      obtain ⟨c0, c1, c2, c3, c4, c5, c6, c7⟩ := B4.cs
      obtain ⟨f0, f1, f2, f3, f4, f5, f6, f7⟩ := B4.fs
      clear hTX hNU hRU hDI hLE hsl hY hrl hll
      go_enter Tryz.func48, Tryz.ntmps48
      go_wp2
      rw [tkSet_fold]; refine bodyPost_ret (tk_done _ B4 _ _ _ _ _ _ rfl rfl) rfl ?_; exact ⟨by rw [HSP.out]; rfl, E4.over1 (tkSet_but _ _ _ _ _ _ _ _) (Nat.le_refl _)⟩
    · have n41 : (c.toNat == 41) = false := beq_eq_false_iff_ne.2 h41
      have e2 : ¬ ((c.toNat : Int) = 41) := by omega
      have e2' : ((c.toNat : Int) == 41) = false := beq_eq_false_iff_ne.2 e2
      by_cases h34 : c.toNat = 34
      · have hY2 : Y = sxTextGo [] q 1 := by rw [hY]; simp [sxScan, h34]
        have e3 : (c.toNat : Int) = 34 := by omega
        rw [← hY2] at hTX
        clear hY hY2 hNU hRU hDI hLE hsl hrl hll
        obtain ⟨k, ys, n, z, y, f⟩ := Y
        have HW := Lib.hid hTX
        simp only [tkv, tkc] at HW
        clear hTX
        go_enter Tryz.func48, Tryz.ntmps48
        go_wp2_with (first | ((with_reducible refine (HW.out _).mono ?_); rintro e w4 ⟨rfl, hE4⟩; have B4 := B0.ev hE4; have E4 := hE0.trans hE4; obtain ⟨c0, c1, c2, c3, c4, c5, c6, c7⟩ := B4.cs; obtain ⟨f0, f1, f2, f3, f4, f5, f6, f7⟩ := B4.fs))
        rw [tkSet_fold]; refine bodyPost_ret (tk_done _ B4 _ _ _ _ _ _ rfl rfl) rfl ?_; exact ⟨rfl, E4.over1 (tkSet_but _ _ _ _ _ _ _ _) (Nat.le_refl _)⟩
      · have n34 : (c.toNat == 34) = false := beq_eq_false_iff_ne.2 h34
        have e3 : ¬ ((c.toNat : Int) = 34) := by omega
        have e3' : ((c.toNat : Int) == 34) = false := beq_eq_false_iff_ne.2 e3
        obtain ⟨dg, hdg⟩ : ∃ dg, sxDigit c = dg := ⟨_, rfl⟩
        rw [hdg] at hDI
        have HD := Lib.hid hDI
        clear hTX hDI
        by_cases hnum : c.toNat = 45 ∨ dg = true
        · have hY2 : Y = sxNumber (c :: q) := by
            rw [hY]
            rcases hnum with h | h
            · simp [sxScan, h]
            · simp [sxScan, n40, n41, n34, hdg, h]
          rw [← hY2] at hNU
          clear hY hY2 hRU hLE hsl hrl hll hdg
          obtain ⟨k, ys, n, z, y, f⟩ := Y
          have HW := Lib.hid hNU
          simp only [tkv, tkc] at HW
          clear hNU
          by_cases h45 : c.toNat = 45
          · have e4 : (c.toNat : Int) = 45 := by omega
            clear hnum
            go_enter Tryz.func48, Tryz.ntmps48
            go_wp2_with (first | ((with_reducible refine (HW.out _).mono ?_); rintro e w4 ⟨rfl, hE4⟩; have B4 := B0.ev hE4; have E4 := hE0.trans hE4; obtain ⟨c0, c1, c2, c3, c4, c5, c6, c7⟩ := B4.cs; obtain ⟨f0, f1, f2, f3, f4, f5, f6, f7⟩ := B4.fs))
            rw [tkSet_fold]; refine bodyPost_ret (tk_done _ B4 _ _ _ _ _ _ rfl rfl) rfl ?_; exact ⟨rfl, E4.over1 (tkSet_but _ _ _ _ _ _ _ _) (Nat.le_refl _)⟩
          · have e4 : ¬ ((c.toNat : Int) = 45) := by omega
            have e4' : ((c.toNat : Int) == 45) = false := beq_eq_false_iff_ne.2 e4
            obtain rfl : dg = true := by
              rcases hnum with h | h
              · exact absurd h h45
              · exact h
            clear hnum
            go_enter Tryz.func48, Tryz.ntmps48
            go_wp2_with (first | ((with_reducible refine (HD.out _).mono ?_); rintro e w3 ⟨rfl, rfl⟩) | ((with_reducible refine (HW.out _).mono ?_); rintro e w4 ⟨rfl, hE4⟩; have B4 := B0.ev hE4; have E4 := hE0.trans hE4; obtain ⟨c0, c1, c2, c3, c4, c5, c6, c7⟩ := B4.cs; obtain ⟨f0, f1, f2, f3, f4, f5, f6, f7⟩ := B4.fs))
            rw [tkSet_fold]; refine bodyPost_ret (tk_done _ B4 _ _ _ _ _ _ rfl rfl) rfl ?_; exact ⟨rfl, E4.over1 (tkSet_but _ _ _ _ _ _ _ _) (Nat.le_refl _)⟩
        · have n45 : (c.toNat == 45) = false := beq_eq_false_iff_ne.2 (fun h => hnum (.inl h))
          have e4 : ¬ ((c.toNat : Int) = 45) := fun h => hnum (.inl (by omega))
          have e4' : ((c.toNat : Int) == 45) = false := beq_eq_false_iff_ne.2 e4
          obtain rfl : dg = false := by
            cases dg
            · rfl
            · exact absurd (.inr rfl) hnum
          obtain ⟨lt, hlt⟩ : ∃ lt, sxLetter c = lt := ⟨_, rfl⟩
          rw [hlt] at hLE
          have HLE := Lib.hid hLE
          clear hLE hNU hnum
          cases lt
          · have HSP : Hid (Y = sxWrong 12 0) := Lib.hid (by rw [hY]; simp [sxScan, n40, n41, n34, n45, hdg, hlt])
            have HW := fun w1 => sx_wrong_raw 12 0 w1
            rw [show (((0 : Nat) : Int)) = 0 from rfl] at HW
            have HW := Lib.hid HW
            clear hY hRU hsl hrl hll hdg hlt
            go_enter Tryz.func48, Tryz.ntmps48
            go_wp2_with (first | ((with_reducible refine (HD.out _).mono ?_); rintro e w3 ⟨rfl, rfl⟩) | ((with_reducible refine (HLE.out _).mono ?_); rintro e w3 ⟨rfl, rfl⟩) | ((with_reducible refine (HW.out _).mono ?_); rintro e w4 ⟨rfl, hE4⟩; have B4 := B0.ev hE4; have E4 := hE0.trans hE4; obtain ⟨c0, c1, c2, c3, c4, c5, c6, c7⟩ := B4.cs; obtain ⟨f0, f1, f2, f3, f4, f5, f6, f7⟩ := B4.fs))
            rw [tkSet_fold]; refine bodyPost_ret (tk_done _ B4 _ _ _ _ _ _ rfl rfl) rfl ?_; exact ⟨by rw [HSP.out]; rfl, E4.over1 (tkSet_but _ _ _ _ _ _ _ _) (Nat.le_refl _)⟩
          · have hY2 : Y = ⟨2, (c :: q).take (sxRun sxLetter (c :: q)), 0, sxRun sxLetter (c :: q), 0, 0⟩ := by rw [hY]; simp [sxScan, n40, n41, n34, n45, hdg, hlt]
            generalize sxRun sxLetter (c :: q) = r at *
            obtain ⟨x, hx⟩ : ∃ x : ByteArray, x = s0.extract 0 r := ⟨_, rfl⟩
            have hxs : s0.extract 0 r = x := hx.symm
            have hxl : x.data.toList = (c :: q).take r := by rw [hx, hsl]
            have hxz : x.size ≤ 100000 := by
              have : x.data.toList.length = x.size := by rw [Array.length_toList]; rfl
              rw [← this, hxl, List.length_take]
              omega
            have HSP : Hid (Y = ⟨2, x.data.toList, 0, r, 0, 0⟩) := Lib.hid (by rw [hY2, hxl])
            have HCL := Lib.hid (fun w1 => sx_clone x w1 hxz)
            have HRU := Lib.hid hRU
            clear hY hY2 hRU hsl hdg hlt hxl hxz hx
            go_enter Tryz.func48, Tryz.ntmps48
            go_wp2_with (first | ((with_reducible refine (HD.out _).mono ?_); rintro e w3 ⟨rfl, rfl⟩) | ((with_reducible refine (HLE.out _).mono ?_); rintro e w3 ⟨rfl, rfl⟩) | ((with_reducible refine (HRU.out _).mono ?_); rintro e w3 ⟨rfl, rfl⟩) | ((with_reducible refine (HCL.out _).mono ?_); rintro e w4 ⟨rfl, hE4⟩; have B4 := B0.ev hE4; have E4 := hE0.trans hE4; obtain ⟨c0, c1, c2, c3, c4, c5, c6, c7⟩ := B4.cs; obtain ⟨f0, f1, f2, f3, f4, f5, f6, f7⟩ := B4.fs))
            rw [tkSet_fold]; refine bodyPost_ret (tk_done _ B4 _ _ _ _ _ _ rfl rfl) rfl ?_; exact ⟨by rw [HSP.out]; rfl, E4.over1 (tkSet_but _ _ _ _ _ _ _ _) (Nat.le_refl _)⟩
end Go.Proofs.YtojbahjebfcmgaaGreatDoor

namespace Go.Proofs.YtojbahjebfcmgaaGreatDoor
open Go.RowKit
set_option linter.unusedVariables false

/-- A tree as it lies in memory: beside the tree where its Kids lie. -/
inductive M where
  | mk (kind : Int) (s : By) (n : Int) (A : Option Addr) (cap : Nat) (kids : List M) (pos : Nat) : M
def M.kind : M → Int
  | .mk k _ _ _ _ _ _ => k
def M.s : M → By
  | .mk _ s _ _ _ _ _ => s
def M.n : M → Int
  | .mk _ _ n _ _ _ _ => n
def M.A : M → Option Addr
  | .mk _ _ _ a _ _ _ => a
def M.cap : M → Nat
  | .mk _ _ _ _ c _ _ => c
def M.kids : M → List M
  | .mk _ _ _ _ _ l _ => l
def M.pos : M → Nat
  | .mk _ _ _ _ _ _ p => p
mutual
def M.t : M → T
  | .mk k s n _ _ l p => .mk k s n (M.ts l) p
def M.ts : List M → List T
  | [] => []
  | m :: l => m.t :: M.ts l
end
theorem M.ts_map : ∀ l : List M, M.ts l = l.map M.t
  | [] => by simp [M.ts]
  | m :: l => by simp [M.ts, M.ts_map l]
theorem M.t_eq (m : M) : m.t = .mk m.kind m.s m.n (m.kids.map M.t) m.pos := by
  cases m
  simp [M.t, M.ts_map, M.kind, M.s, M.n, M.kids, M.pos]
theorem M.t_kids (m : M) : m.t.kids = m.kids.map M.t := by rw [M.t_eq]; rfl
theorem M.t_kind (m : M) : m.t.kind = m.kind := by rw [M.t_eq]; rfl
theorem M.t_pos (m : M) : m.t.pos = m.pos := by rw [M.t_eq]; rfl
def M.kv (m : M) : Value := .slice m.A m.kids.length m.cap
def mc (m : M) : List Value := [.int .i64 m.kind, .string ⟨m.s.toArray⟩, .int .i64 m.n, m.kv, .int .i64 (m.pos : Int)]
def mv (m : M) : Value := .agg #[.int .i64 m.kind, .string ⟨m.s.toArray⟩, .int .i64 m.n, m.kv, .int .i64 (m.pos : Int)]
abbrev Ms := Sl 5 mc

def mlist (l : List M) : List Value := l.flatMap mc
theorem mlist_length (l : List M) : (mlist l).length = l.length * 5 := by
  induction l with
  | nil => rfl
  | cons x l ih =>
    have : (mlist (x :: l)).length = 5 + (mlist l).length := by simp [mlist, mc]; omega
    rw [this, ih, List.length_cons]; omega
theorem mlist_append (l m : List M) : mlist (l ++ m) = mlist l ++ mlist m := by simp [mlist]
theorem mlist_one_ (m : M) : mlist [m] = mc m := by simp [mlist]
theorem mlist_get : ∀ (l : List M) (i : Nat) (x : M), l[i]? = some x → ∀ j u, (mc x)[j]? = some u → (mlist l)[i * 5 + j]? = some u
  | [], _, _, h, _, _, _ => by simp at h
  | y :: l, 0, x, h, j, u, hu => by
    simp at h
    subst h
    have hj : j < 5 := (List.getElem?_eq_some_iff.1 hu).1
    have e : mlist (y :: l) = mc y ++ mlist l := rfl
    rw [e, Nat.zero_mul, Nat.zero_add, List.getElem?_append_left (by simpa [mc] using hj)]
    exact hu
  | y :: l, i + 1, x, h, j, u, hu => by
    have e : mlist (y :: l) = mc y ++ mlist l := rfl
    have hl : (mc y).length = 5 := rfl
    rw [e, List.getElem?_append_right (by rw [hl]; omega), hl, show (i + 1) * 5 + j - 5 = i * 5 + j by omega]
    exact mlist_get l i x (by simpa using h) j u hu
theorem mlist_ones (l : List M) : ∀ u ∈ mlist l, u.oneCell' = true := by
  intro u hu
  obtain ⟨x, _, hx⟩ := List.mem_flatMap.1 hu
  simp [mc, M.kv] at hx
  rcases hx with rfl | rfl | rfl | rfl | rfl <;> rfl

/-- A tree lies in memory, all of it in blocks that are not of K. -/
inductive Lies (b0 : Nat) (K : List Nat) (w : World) : M → Prop
  | mk {kind : Int} {s : By} {n : Int} {A : Option Addr} {cap : Nat} {kids : List M} {pos : Nat} : Ms w A kids.length cap kids → (∀ ad, A = some ad → b0 ≤ ad.block ∧ ad.block < w.heap.size ∧ ad.block ∉ K) → (∀ k ∈ kids, Lies b0 K w k) →
      Lies b0 K w (.mk kind s n A cap kids pos)
theorem Lies.ms {b0 : Nat} {K : List Nat} {w : World} {m : M} (h : Lies b0 K w m) : Ms w m.A m.kids.length m.cap m.kids := by
  cases h with
  | mk h1 h2 h3 => exact h1
theorem Lies.kid {b0 : Nat} {K : List Nat} {w : World} {m : M} (h : Lies b0 K w m) : ∀ k ∈ m.kids, Lies b0 K w k := by
  cases h with
  | mk h1 h2 h3 => exact h3
theorem Lies.move {b0 : Nat} {K K' : List Nat} {w w' : World} {m : M} (h : Lies b0 K w m) (hb : But K w w') (hs : ∀ x ∈ K', x ∈ K ∨ x < b0 ∨ w.heap.size ≤ x) : Lies b0 K' w' m := by
  induction h with
  | mk h1 h2 h3 ih =>
    refine .mk (h1.but hb fun ad e => (h2 ad e).2.2) (fun ad e => ⟨(h2 ad e).1, Nat.lt_of_lt_of_le (h2 ad e).2.1 hb.size, fun hm => ?_⟩) ih
    rcases hs _ hm with h4 | h4 | h4
    · exact (h2 ad e).2.2 h4
    · have := (h2 ad e).1; omega
    · have := (h2 ad e).2.1; omega
theorem Lies.ev {b0 : Nat} {K : List Nat} {w w' : World} {m : M} (h : Lies b0 K w m) (hE : Ev w w') : Lies b0 K w' m := h.move (But.of_ev hE) fun _ hx => .inl hx
theorem Lies.low {b0 b1 : Nat} {K : List Nat} {w : World} {m : M} (h : Lies b1 K w m) (hb : b0 ≤ b1) : Lies b0 K w m := by
  induction h with
  | mk h1 h2 h3 ih => exact .mk h1 (fun ad e => ⟨Nat.le_trans hb (h2 ad e).1, (h2 ad e).2⟩) ih
theorem Lies.less {b0 : Nat} {K K' : List Nat} {w : World} {m : M} (h : Lies b0 K w m) (hs : ∀ x ∈ K', x ∈ K ∨ x < b0 ∨ w.heap.size ≤ x) : Lies b0 K' w m := h.move (But.refl _ _) hs

/-- The blocks that may turn while v is the list of what is open. -/
def blk (v : Value) (os : List M) : List Nat := foot v ++ os.flatMap fun e => foot e.kv
structure Opn (base : Nat) (w : World) (v : Value) (os : List M) : Prop where
  own : w.ownsRow base 67 5 v os.length (mlist os)
  kid : ∀ e ∈ os, w.ownsRow base 67 5 e.kv e.kids.length (mlist e.kids)
  nd : (blk v os).Nodup
  lies : ∀ e ∈ os, ∀ m ∈ e.kids, Lies base (blk v os) w m
theorem own_but {K : List Nat} {w w' : World} {base : Nat} {e : TypeId} {size : Nat} {v : Value} {n : Nat} {xs : List Value} (h : w.ownsRow base e size v n xs) (hb : But K w w') (hn : ∀ g, v.ownBlock = some g → g ∉ K) : w'.ownsRow base e size v n xs := by
  refine ⟨h.1, ?_⟩
  rcases h.2 with h2 | ⟨g, cap, cur, rfl, hg, hh, r⟩
  · exact .inl h2
  · exact .inr ⟨g, cap, cur, rfl, hg, hb.heap hh (hn g rfl), r⟩
theorem mem_blk {v : Value} {os : List M} {g : Nat} : g ∈ blk v os ↔ v.ownBlock = some g ∨ ∃ e ∈ os, e.kv.ownBlock = some g := by
  unfold blk
  simp [mem_foot]
theorem Opn.range {base : Nat} {w : World} {v : Value} {os : List M} (h : Opn base w v os) {g : Nat} (hg : g ∈ blk v os) : base ≤ g ∧ g < w.heap.size := by
  rcases mem_blk.1 hg with h1 | ⟨e, he, h1⟩
  · exact h.own.lt g h1
  · exact (h.kid e he).lt g h1
theorem Opn.ev {base : Nat} {w w' : World} {v : Value} {os : List M} (h : Opn base w v os) (hE : Ev w w') : Opn base w' v os :=
  ⟨own_ev h.own hE, fun e he => own_ev (h.kid e he) hE, h.nd, fun e he m hm => (h.lies e he m hm).ev hE⟩
/-- The list's own cells. -/
theorem Opn.at {base : Nat} {w : World} {v : Value} {os : List M} (h : Opn base w v os) (h0 : os ≠ []) : ∃ g cap, v = .slice (some ⟨g, 0, none⟩) os.length cap ∧ os.length ≤ cap ∧ cap ≤ 9223372036854775807 ∧ base ≤ g ∧ g < w.heap.size ∧ (∀ i, w.frozen? ⟨g, i, none⟩ = false) ∧
    ∀ i x, os[i]? = some x → w.cell? ⟨g, i * 5, none⟩ = some (.int .i64 x.kind) ∧ w.cell? ⟨g, i * 5 + 1, none⟩ = some (.string ⟨x.s.toArray⟩) ∧ w.cell? ⟨g, i * 5 + 2, none⟩ = some (.int .i64 x.n) ∧ w.cell? ⟨g, i * 5 + 3, none⟩ = some x.kv ∧ w.cell? ⟨g, i * 5 + 4, none⟩ = some (.int .i64 (x.pos : Int)) := by
  rcases h.own.2 with ⟨_, hn⟩ | ⟨g, cap, cur, rfl, hg, hh, hnc, hcm, hcs, ht⟩
  · exact absurd (List.eq_nil_of_length_eq_zero hn) h0
  · refine ⟨g, cap, rfl, hnc, by simpa [maxLen] using hcm, hg, (Array.getElem?_eq_some_iff.1 hh).1, fun i => Lib.frozen_of_heap hh i, fun i x hx => ?_⟩
    have hi := (List.getElem?_eq_some_iff.1 hx).1
    have key : ∀ j u, (mc x)[j]? = some u → w.cell? ⟨g, i * 5 + j, none⟩ = some u := fun j u hu => by
      have hj : j < 5 := (List.getElem?_eq_some_iff.1 hu).1
      rw [World.ownsRow.cellAt h.own (i * 5 + j) (by omega)]
      exact mlist_get os i x hx j u hu
    exact ⟨key 0 _ rfl, key 1 _ rfl, key 2 _ rfl, key 3 _ rfl, key 4 _ rfl⟩
/-- A slice of trees: element i. -/
theorem Ms.cell {w : World} {A : Option Addr} {n cap : Nat} {l : List M} (h : Ms w A n cap l) {i : Nat} {x : M} (hx : l[i]? = some x) : ∃ b off, A = some ⟨b, off, none⟩ ∧ b < w.heap.size ∧
    w.cell? ⟨b, off + i * 5, none⟩ = some (.int .i64 x.kind) ∧ w.cell? ⟨b, off + i * 5 + 1, none⟩ = some (.string ⟨x.s.toArray⟩) ∧ w.cell? ⟨b, off + i * 5 + 2, none⟩ = some (.int .i64 x.n) ∧ w.cell? ⟨b, off + i * 5 + 3, none⟩ = some x.kv ∧ w.cell? ⟨b, off + i * 5 + 4, none⟩ = some (.int .i64 (x.pos : Int)) := by
  have hi := (List.getElem?_eq_some_iff.1 hx).1
  have hl := h.len
  obtain ⟨b, off, e, hlt, hc⟩ := h.rd (by omega)
  exact ⟨b, off, e, hlt, hc i x hx 0 _ rfl, hc i x hx 1 _ rfl, hc i x hx 2 _ rfl, hc i x hx 3 _ rfl, hc i x hx 4 _ rfl⟩
/-- An own row of trees reads as a slice. -/
theorem own_ms {w : World} {base : Nat} {A : Option Addr} {n cap : Nat} {l : List M} (h : w.ownsRow base 67 5 (.slice A n cap) n (mlist l)) : Ms w A n cap l := by
  have hl : l.length = n := by have := h.1; rw [mlist_length] at this; omega
  rcases h.2 with ⟨hv, hn⟩ | ⟨g, c, cur, hv, hg, hh, hnc, hcm, hcs, ht⟩
  · injection hv with h1 h2 h3
    subst h1; subst h2; subst h3
    exact ⟨hl, Nat.le_refl _, by omega, fun _ => ⟨rfl, rfl⟩, fun h0 => absurd h0 (by omega)⟩
  · injection hv with h1 h2 h3
    subst h1; subst h3
    refine ⟨hl, hnc, by simpa [maxLen] using hcm, by simp, fun h0 => ⟨g, 0, rfl, (Array.getElem?_eq_some_iff.1 hh).1, fun i x hx j u hu => ?_⟩⟩
    have hi := (List.getElem?_eq_some_iff.1 hx).1
    have hj : j < 5 := (List.getElem?_eq_some_iff.1 hu).1
    have := World.ownsRow.cellAt h (i * 5 + j) (by omega)
    rw [Nat.zero_add, this]
    exact mlist_get l i x hx j u hu

set_option maxRecDepth 100000 in
set_option maxHeartbeats 800000 in
theorem sx_isComplete {base : Nat} {v : Value} {os : List M} (w : World) (h : Opn base w v os) (h0 : os ≠ []) :
    Calls Tryz.prog 91 #[v] w fun e w' => e = .returned (.bool (sxDone (os.map M.t))) ∧ w = w' := by
  obtain ⟨g, cap, rfl, hle, hmx, _, hg, _, hc⟩ := h.at h0
  cases os with
  | nil => exact absurd rfl h0
  | cons e os =>
    obtain ⟨_, _, _, c3, _⟩ := hc 0 e rfl
    have hk := (own_ms (h.kid e (List.mem_cons_self ..))).le
    have hk2 := (own_ms (h.kid e (List.mem_cons_self ..))).max
    have HF : Hid (sxDone ((e :: os).map M.t) = decide (0 < e.kids.length)) := Lib.hid (by
      simp only [sxDone, List.map_cons, M.t_kids]
      cases e.kids <;> simp)
    unfold M.kv at c3
    generalize e.kids.length = n at *
    simp only [Nat.zero_mul, Nat.zero_add] at c3
    obtain ⟨q, hq⟩ : ∃ q, q = (e :: os).length := ⟨_, rfl⟩
    have hq1 : 1 ≤ q := by rw [hq]; simp
    rw [← hq] at hle ⊢
    have hD : decide (0 < n) = decide ((0 : Int) < (n : Int)) := decide_eq_decide.2 (by omega)
    have HD := Lib.hid hD
    clear hD hq hc h
    go_enter Tryz.func91, Tryz.ntmps91
    go_wp2
    go_ret
    exact ⟨by rw [HF.out, HD.out]; rfl, rfl⟩
end Go.Proofs.YtojbahjebfcmgaaGreatDoor

namespace Go.Proofs.YtojbahjebfcmgaaGreatDoor
open Go.RowKit
set_option linter.unusedVariables false

theorem Tryz.sizeTree : (Tryz.prog.info? 67).map (·.size) = some 5 := by kernel_rfl
theorem results_cell2 {P : Program} {fn : Func} {p u1 u2 : Tmp} {ty : TypeId} (h : fn.results = #[.cell p ty, .tmp u1, .tmp u2]) (tmps : Array Value) (w : World) (g : Nat) (t : TypeId) (cs : Array Value) (fr : Nat × Nat) (d : TypeDesc)
    (hp : tmps.getD p undef = .pointer (some ⟨g, 0, none⟩)) (hg : w.heap[g]? = some (.cells cs t fr))
    (hu : P.underlying ty = some d) (hd : (match d with | .struct _ | .array _ _ => true | _ => false) = true) (hi : (P.info? ty).map (·.size) = some cs.size) :
    (results fn tmps).run P w = .ok (.tuple #[.agg cs, tmps.getD u1 undef, tmps.getD u2 undef]) w := by
  have hp' : tmps[p]?.getD undef = .pointer (some ⟨g, 0, none⟩) := by simpa using hp
  simp [results, h, hp', asAddr, run_loadVar_row w g t ty cs fr d hg hu hd hi]
/-- A tree in its own box. -/
def mraw (k n p : Int) (s : ByteArray) (v : Value) : Array Value := #[.int .i64 k, .string s, .int .i64 n, v, .int .i64 p]
theorem ret_tree2 {fn : Func} {p u1 u2 : Tmp} (h : fn.results = #[.cell p 67, .tmp u1, .tmp u2]) (tmps : Array Value) (w : World) (g : Nat) (k n q : Int) (s : ByteArray) (v : Value)
    (hp : tmps.getD p undef = .pointer (some ⟨g, 0, none⟩)) (hg : w.heap[g]? = some (.cells (mraw k n q s v) 67 (0, 0))) :
    (results fn tmps).run Tryz.prog w = .ok (.tuple #[.agg (mraw k n q s v), tmps.getD u1 undef, tmps.getD u2 undef]) w :=
  results_cell2 h tmps w g 67 _ _ _ hp hg Tryz.underlying67 rfl Tryz.sizeTree
def mzero : M := .mk 0 [] 0 none 0 [] 0
theorem Lies.zero (b0 : Nat) (K : List Nat) (w : World) : Lies b0 K w mzero := .mk (Sl.nil_ w) (fun _ h => by cases h) (fun _ h => by cases h)

set_option maxRecDepth 100000 in
set_option maxHeartbeats 1600000 in
theorem sx_whole {base : Nat} {v : Value} {os : List M} (w : World) (h : Opn base w v os) (h0 : os ≠ []) (pos : Nat) :
    Calls Tryz.prog 47 #[v, .int .i64 (pos : Int)] w fun e w' => ∃ m : M, e = .returned (.tuple #[mv m, .int .i64 (sxWhole (os.map M.t) pos).2.1, .int .i64 ((sxWhole (os.map M.t) pos).2.2 : Int)]) ∧ m.t = (sxWhole (os.map M.t) pos).1 ∧ Lies base (blk v os) w' m ∧ Ev w w' := by
  have HC := fun w1 (h1 : Opn base w1 v os) => sx_isComplete w1 h1 h0
  have hL : ∀ e ∈ os, ∀ m ∈ e.kids, Lies base (blk v os) w m := h.lies
  generalize hK : blk v os = K at *
  obtain ⟨g, cap, rfl, hle, hmx, _, hg, _, hc⟩ := h.at h0
  cases os with
  | nil => exact absurd rfl h0
  | cons e os =>
    have hke := own_ms (h.kid e (List.mem_cons_self ..))
    obtain ⟨_, _, _, c3, _⟩ := hc 0 e rfl
    have hLe := hL e (List.mem_cons_self ..)
    have hE0 : Ev w (w.alloc (.cells #[.int .i64 0, .string ⟨#[]⟩, .int .i64 0, .slice none 0 0, .int .i64 0] 67)) := Ev.alloc _ _
    have HC := Lib.hid (HC _ (h.ev hE0))
    obtain ⟨q, hq⟩ : ∃ q, q = (e :: os).length := ⟨_, rfl⟩
    have hq1 : 1 ≤ q := by rw [hq]; simp
    rw [← hq] at hle HC ⊢
    unfold M.kv at c3
    simp only [Nat.zero_mul, Nat.zero_add] at c3
    cases hkd : e.kids with
    | nil =>
      have e1 : sxDone ((e :: os).map M.t) = false := by simp [sxDone, M.t_kids, hkd]
      have e2 : sxWhole ((e :: os).map M.t) pos = (sxZero, 10, pos) := by simp [sxWhole, M.t_kids, hkd]
      rw [e2]
      rw [e1] at HC
      clear e1 e2 hc hL hLe hke h hkd c3 hq
      go_enter Tryz.func47, Tryz.ntmps47
      go_wp2_with (first | ((with_reducible refine HC.out.mono ?_); rintro x w1 ⟨rfl, rfl⟩))
      refine bodyPost_ret (ret_tree2 rfl _ _ w.heap.size 0 0 0 ⟨#[]⟩ (.slice none 0 0) rfl (heap_alloc_new w _)) rfl ?_
      exact ⟨mzero, rfl, by simp [mzero, M.t, M.ts, sxZero], Lies.zero _ _ _, hE0⟩
    | cons k0 ks =>
      have e1 : sxDone ((e :: os).map M.t) = true := by simp [sxDone, M.t_kids, hkd]
      have e2 : sxWhole ((e :: os).map M.t) pos = (k0.t, 0, 0) := by simp [sxWhole, M.t_kids, hkd]
      rw [e2]
      rw [e1] at HC
      have hlk := hLe k0 (by rw [hkd]; exact List.mem_cons_self ..)
      rw [hkd] at hke c3
      obtain ⟨b, off, hA, hb, d0, d1, d2, d3, d4⟩ := hke.cell (i := 0) (x := k0) rfl
      rw [hA] at c3
      have hn1 : 1 ≤ (k0 :: ks).length := by simp
      have hn2 := hke.le
      have hn3 := hke.max
      generalize (k0 :: ks).length = n at *
      simp only [Nat.zero_mul, Nat.add_zero] at d0 d1 d2 d3 d4
      clear e1 e2 hc hL hLe hke h hkd hq
      obtain ⟨kk, ks', kn, kA, kc, kl, kp⟩ := k0
      simp only [M.kind, M.s, M.n, M.kv, M.A, M.kids, M.cap, M.pos] at d0 d1 d2 d3 d4
      go_enter Tryz.func47, Tryz.ntmps47
      go_wp2_with (first | ((with_reducible refine HC.out.mono ?_); rintro x w1 ⟨rfl, rfl⟩))
      refine bodyPost_ret (ret_tree2 rfl _ _ w.heap.size kk kn kp ⟨ks'.toArray⟩ (.slice kA kl.length kc) rfl (heap_alloc_new w _)) rfl ?_
      exact ⟨.mk kk ks' kn kA kc kl kp, rfl, rfl, hlk.ev (Ev.alloc _ _), Ev.alloc _ _⟩

def sxJudgeB (D : Bool) (q : Nat) (x : Tk) : Int × Nat :=
  if !(x.why == 0) && !(D && decide (0 < x.fault)) then (x.why, x.fault)
  else if x.kind == -1 && q == 1 then (12, 0)
  else if !(x.kind == -1) && D then (11, 0)
  else if x.kind == 1 && decide (12 < q) then (14, 0)
  else (0, 0)
theorem sxJudge_b (os : List T) (x : Tk) : sxJudge os x = sxJudgeB (sxDone os) os.length x := rfl

set_option maxRecDepth 100000 in
set_option maxHeartbeats 4000000 in
theorem sx_judge {base : Nat} {v : Value} {os : List M} (w : World) (h : Opn base w v os) (h0 : os ≠ []) (x : Tk) :
    Calls Tryz.prog 49 #[v, tkv x] w fun e w' => e = .returned (.tuple #[.int .i64 (sxJudge (os.map M.t) x).1, .int .i64 ((sxJudge (os.map M.t) x).2 : Int)]) ∧ Ev w w' := by
  have hE0 : Ev w (w.alloc (.cells (tkc x) 94)) := Ev.alloc _ _
  have HC := sx_isComplete _ (h.ev hE0) h0
  obtain ⟨g, cap, rfl, hle, hmx, _, hg, _, hc⟩ := h.at h0
  rw [sxJudge_b, List.length_map]
  have hq1 : 1 ≤ os.length := by
    cases os with
    | nil => exact absurd rfl h0
    | cons e os => simp
  generalize os.length = q at *
  generalize sxDone (os.map M.t) = D at *
  obtain ⟨J, hJ⟩ : ∃ J, J = sxJudgeB D q x := ⟨_, rfl⟩
  rw [← hJ]
  obtain ⟨k, xs, n, z, y, f⟩ := x
  unfold tkv tkc at *
  simp only at HC hE0
  have HC := Lib.hid HC
  clear hc h
  by_cases hy : y = 0
  · subst hy
    cases D
    · by_cases hk : k = -1
      · subst hk
        by_cases hq : q = 1
        · subst hq
          · have HJ : Hid (J = (12, 0)) := Lib.hid (by rw [hJ]; simp [sxJudgeB])
            clear hJ
            go_enter Tryz.func49, Tryz.ntmps49
            go_wp2_with (first | ((with_reducible refine HC.out.mono ?_); rintro x w1 ⟨rfl, rfl⟩))
            go_ret2
            rw [HJ.out]
            exact ⟨rfl, hE0⟩
        · have q1 : ¬ ((q : Int) = 1) := by omega
          have q1' : ((q : Int) == 1) = false := beq_eq_false_iff_ne.2 q1
          · have HJ : Hid (J = (0, 0)) := Lib.hid (by rw [hJ]; simp [sxJudgeB, hq])
            clear hJ
            go_enter Tryz.func49, Tryz.ntmps49
            go_wp2_with (first | ((with_reducible refine HC.out.mono ?_); rintro x w1 ⟨rfl, rfl⟩))
            go_ret2
            rw [HJ.out]
            exact ⟨rfl, hE0⟩
      · have hk' : (k == -1) = false := beq_eq_false_iff_ne.2 hk
        have hk'' : (k != -1) = true := bne_iff_ne.2 hk
        by_cases k1 : k = 1
        · subst k1
          by_cases q12 : 12 < q
          · have q2 : (12 : Int) < (q : Int) := by omega
            · have HJ : Hid (J = (14, 0)) := Lib.hid (by rw [hJ]; simp [sxJudgeB, q12])
              clear hJ
              go_enter Tryz.func49, Tryz.ntmps49
              go_wp2_with (first | ((with_reducible refine HC.out.mono ?_); rintro x w1 ⟨rfl, rfl⟩))
              go_ret2
              rw [HJ.out]
              exact ⟨rfl, hE0⟩
          · have q2 : ¬ ((12 : Int) < (q : Int)) := by omega
            · have HJ : Hid (J = (0, 0)) := Lib.hid (by rw [hJ]; simp [sxJudgeB, q12])
              clear hJ
              go_enter Tryz.func49, Tryz.ntmps49
              go_wp2_with (first | ((with_reducible refine HC.out.mono ?_); rintro x w1 ⟨rfl, rfl⟩))
              go_ret2
              rw [HJ.out]
              exact ⟨rfl, hE0⟩
        · have k1' : (k == 1) = false := beq_eq_false_iff_ne.2 k1
          · have HJ : Hid (J = (0, 0)) := Lib.hid (by rw [hJ]; simp [sxJudgeB, hk, k1])
            clear hJ
            go_enter Tryz.func49, Tryz.ntmps49
            go_wp2_with (first | ((with_reducible refine HC.out.mono ?_); rintro x w1 ⟨rfl, rfl⟩))
            go_ret2
            rw [HJ.out]
            exact ⟨rfl, hE0⟩
    · by_cases hk : k = -1
      · subst hk
        by_cases hq : q = 1
        · subst hq
          · have HJ : Hid (J = (12, 0)) := Lib.hid (by rw [hJ]; simp [sxJudgeB])
            clear hJ
            go_enter Tryz.func49, Tryz.ntmps49
            go_wp2_with (first | ((with_reducible refine HC.out.mono ?_); rintro x w1 ⟨rfl, rfl⟩))
            go_ret2
            rw [HJ.out]
            exact ⟨rfl, hE0⟩
        · have q1 : ¬ ((q : Int) = 1) := by omega
          have q1' : ((q : Int) == 1) = false := beq_eq_false_iff_ne.2 q1
          · have HJ : Hid (J = (0, 0)) := Lib.hid (by rw [hJ]; simp [sxJudgeB, hq])
            clear hJ
            go_enter Tryz.func49, Tryz.ntmps49
            go_wp2_with (first | ((with_reducible refine HC.out.mono ?_); rintro x w1 ⟨rfl, rfl⟩))
            go_ret2
            rw [HJ.out]
            exact ⟨rfl, hE0⟩
      · have hk' : (k == -1) = false := beq_eq_false_iff_ne.2 hk
        have hk'' : (k != -1) = true := bne_iff_ne.2 hk
        · have HJ : Hid (J = (11, 0)) := Lib.hid (by rw [hJ]; simp [sxJudgeB, hk])
          clear hJ
          go_enter Tryz.func49, Tryz.ntmps49
          go_wp2_with (first | ((with_reducible refine HC.out.mono ?_); rintro x w1 ⟨rfl, rfl⟩))
          go_ret2
          rw [HJ.out]
          exact ⟨rfl, hE0⟩
  · have hy' : (y == 0) = false := beq_eq_false_iff_ne.2 hy
    have hy'' : (y != 0) = true := bne_iff_ne.2 hy
    cases D
    · have HJ : Hid (J = (y, f)) := Lib.hid (by rw [hJ]; simp [sxJudgeB, hy])
      clear hJ
      go_enter Tryz.func49, Tryz.ntmps49
      go_wp2_with (first | ((with_reducible refine HC.out.mono ?_); rintro x w1 ⟨rfl, rfl⟩))
      go_quiet (fail)
      go_wp2
      go_ret2
      rw [HJ.out]
      exact ⟨rfl, hE0.trans (Ev.drewN _ _)⟩
    · by_cases hf : 0 < f
      · have hf1 : decide (0 < f) = true := decide_eq_true hf
        · by_cases hk : k = -1
          · subst hk
            by_cases hq : q = 1
            · subst hq
              · have HJ : Hid (J = (12, 0)) := Lib.hid (by rw [hJ]; simp [sxJudgeB, hf])
                clear hJ
                go_enter Tryz.func49, Tryz.ntmps49
                go_wp2_with (first | ((with_reducible refine HC.out.mono ?_); rintro x w1 ⟨rfl, rfl⟩))
                go_ret2
                rw [HJ.out]
                exact ⟨rfl, hE0⟩
            · have q1 : ¬ ((q : Int) = 1) := by omega
              have q1' : ((q : Int) == 1) = false := beq_eq_false_iff_ne.2 q1
              · have HJ : Hid (J = (0, 0)) := Lib.hid (by rw [hJ]; simp [sxJudgeB, hf, hq])
                clear hJ
                go_enter Tryz.func49, Tryz.ntmps49
                go_wp2_with (first | ((with_reducible refine HC.out.mono ?_); rintro x w1 ⟨rfl, rfl⟩))
                go_ret2
                rw [HJ.out]
                exact ⟨rfl, hE0⟩
          · have hk' : (k == -1) = false := beq_eq_false_iff_ne.2 hk
            have hk'' : (k != -1) = true := bne_iff_ne.2 hk
            · have HJ : Hid (J = (11, 0)) := Lib.hid (by rw [hJ]; simp [sxJudgeB, hf, hk])
              clear hJ
              go_enter Tryz.func49, Tryz.ntmps49
              go_wp2_with (first | ((with_reducible refine HC.out.mono ?_); rintro x w1 ⟨rfl, rfl⟩))
              go_ret2
              rw [HJ.out]
              exact ⟨rfl, hE0⟩
      · have hf1 : decide (0 < f) = false := decide_eq_false hf
        · have HJ : Hid (J = (y, f)) := Lib.hid (by rw [hJ]; simp [sxJudgeB, hy, hf])
          clear hJ
          go_enter Tryz.func49, Tryz.ntmps49
          go_wp2_with (first | ((with_reducible refine HC.out.mono ?_); rintro x w1 ⟨rfl, rfl⟩))
          go_quiet (fail)
          go_wp2
          go_ret2
          rw [HJ.out]
          exact ⟨rfl, hE0.trans (Ev.drewN _ _)⟩
end Go.Proofs.YtojbahjebfcmgaaGreatDoor

namespace Go.Proofs.YtojbahjebfcmgaaGreatDoor
open Go.RowKit
set_option linter.unusedVariables false

/-- All cells of a list of elements. -/
def cl {α : Type} (enc : α → List Value) (l : List α) : List Value := l.flatMap enc
structure Enc {α : Type} (k : Nat) (enc : α → List Value) : Prop where
  pos : 0 < k
  len : ∀ x, (enc x).length = k
  one : ∀ x, ∀ u ∈ enc x, u.oneCell' = true
section
variable {α : Type} {k : Nat} {enc : α → List Value}
theorem cl_append (l m : List α) : cl enc (l ++ m) = cl enc l ++ cl enc m := by simp [cl]
theorem cl_cons (x : α) (l : List α) : cl enc (x :: l) = enc x ++ cl enc l := rfl
theorem cl_length (E : Enc k enc) (l : List α) : (cl enc l).length = l.length * k := by
  induction l with
  | nil => simp [cl]
  | cons x l ih => rw [cl_cons, List.length_append, E.len, ih, List.length_cons, Nat.add_mul, Nat.one_mul, Nat.add_comm]
theorem cl_get (E : Enc k enc) : ∀ (l : List α) (i : Nat) (x : α), l[i]? = some x → ∀ j u, (enc x)[j]? = some u → (cl enc l)[i * k + j]? = some u
  | [], _, _, h, _, _, _ => by simp at h
  | y :: l, 0, x, h, j, u, hu => by
    simp at h
    subst h
    have hj := (List.getElem?_eq_some_iff.1 hu).1
    rw [cl_cons, Nat.zero_mul, Nat.zero_add, List.getElem?_append_left hj]
    exact hu
  | y :: l, i + 1, x, h, j, u, hu => by
    rw [cl_cons, List.getElem?_append_right (by rw [E.len, Nat.add_mul]; omega), E.len, show (i + 1) * k + j - k = i * k + j by rw [Nat.add_mul]; omega]
    exact cl_get E l i x (by simpa using h) j u hu
theorem cl_back (E : Enc k enc) : ∀ (l : List α) (q : Nat) (u : Value), (cl enc l)[q]? = some u → ∃ i j x, q = i * k + j ∧ l[i]? = some x ∧ (enc x)[j]? = some u
  | [], q, u, h => by simp [cl] at h
  | y :: l, q, u, h => by
    rw [cl_cons] at h
    by_cases hq : q < k
    · rw [List.getElem?_append_left (by rw [E.len]; exact hq)] at h
      exact ⟨0, q, y, by omega, rfl, h⟩
    · rw [List.getElem?_append_right (by rw [E.len]; omega), E.len] at h
      obtain ⟨i, j, x, h1, h2, h3⟩ := cl_back E l (q - k) u h
      exact ⟨i + 1, j, x, by rw [Nat.add_mul]; omega, by simpa using h2, h3⟩
theorem cl_one (E : Enc k enc) (l : List α) : ∀ u ∈ cl enc l, u.oneCell' = true := by
  intro u hu
  obtain ⟨x, _, hx⟩ := List.mem_flatMap.1 hu
  exact E.one x u hx
theorem cl_set (E : Enc k enc) : ∀ (l : List α) (i j : Nat) (x x' : α) (u : Value), l[i]? = some x → j < k → enc x' = (enc x).set j u → (cl enc l).set (i * k + j) u = cl enc (l.set i x')
  | [], i, j, x, x', u, h, _, _ => by simp at h
  | y :: l, 0, j, x, x', u, h, hj, he => by
    simp at h
    subst h
    rw [List.set_cons_zero, cl_cons, cl_cons, he, Nat.zero_mul, Nat.zero_add, List.set_append_left _ _ (by rw [E.len]; exact hj)]
  | y :: l, i + 1, j, x, x', u, h, hj, he => by
    rw [List.set_cons_succ, cl_cons, cl_cons, List.set_append_right _ _ (by rw [E.len, Nat.add_mul]; omega), E.len, show (i + 1) * k + j - k = i * k + j by rw [Nat.add_mul]; omega]
    rw [cl_set E l i j x x' u (by simpa using h) hj he]
theorem cl_take (E : Enc k enc) : ∀ (l : List α) (m : Nat), (cl enc l).take (m * k) = cl enc (l.take m)
  | [], m => by simp [cl]
  | y :: l, 0 => by simp [cl]
  | y :: l, m + 1 => by
    rw [List.take_succ_cons, cl_cons, cl_cons, List.take_append, E.len, List.take_of_length_le (by rw [E.len, Nat.add_mul]; omega), show (m + 1) * k - k = m * k by rw [Nat.add_mul]; omega, cl_take E l m]
theorem ow_set_heap {w : World} {b : Nat} {cs : Array Value} {T : TypeId} (i : Nat) (x : Value) (h : w.heap[b]? = some (.cells cs T (0, 0))) : (w.setCell ⟨b, i, none⟩ x).heap[b]? = some (.cells (cs.setIfInBounds i x) T (0, 0)) := by
  simp only [World.setCell, Array.getElem?_modify, if_pos]
  rw [h]
  rfl

/-- v is a slice of its own that holds Z. -/
def Ow (et : TypeId) (k : Nat) (enc : α → List Value) (base : Nat) (w : World) (v : Value) (Z : List α) : Prop := w.ownsRow base et k v Z.length (cl enc Z)
variable {et : TypeId} {base : Nat} {w w' : World} {v : Value} {Z : List α}
theorem Ow.nil_ (w : World) : Ow et k enc base w (.slice none 0 0) ([] : List α) := World.ownsRow_nil _ _ _ _
theorem Ow.but {K : List Nat} (h : Ow et k enc base w v Z) (hb : But K w w') (hn : ∀ g, v.ownBlock = some g → g ∉ K) : Ow et k enc base w' v Z := by
  refine ⟨h.1, ?_⟩
  rcases h.2 with h2 | ⟨g, cap, cur, rfl, hg, hh, r⟩
  · exact .inl h2
  · exact .inr ⟨g, cap, cur, rfl, hg, hb.heap hh (hn g rfl), r⟩
theorem Ow.ev (h : Ow et k enc base w v Z) (hE : Ev w w') : Ow et k enc base w' v Z := own_ev h hE
theorem Ow.lt (h : Ow et k enc base w v Z) {g : Nat} (hg : v.ownBlock = some g) : base ≤ g ∧ g < w.heap.size := World.ownsRow.lt h g hg
theorem Ow.form (E : Enc k enc) (h : Ow et k enc base w v Z) : ∃ A cap, v = .slice A Z.length cap ∧ Sl k enc w A Z.length cap Z ∧ ∀ ad, A = some ad → v.ownBlock = some ad.block ∧ base ≤ ad.block ∧ ad.block < w.heap.size ∧ ad = ⟨ad.block, 0, none⟩ ∧ ∀ i, w.frozen? ⟨ad.block, i, none⟩ = false := by
  have hlt := fun g hg => World.ownsRow.lt h g hg
  rcases h.2 with ⟨rfl, hn⟩ | ⟨g, cap, cur, rfl, hb, hg, hnc, hcm, hcs, ht⟩
  · have hl : Z = [] := List.eq_nil_of_length_eq_zero hn
    subst hl
    exact ⟨none, 0, rfl, Sl.nil_ w, by simp⟩
  · refine ⟨_, _, rfl, ⟨rfl, hnc, by simpa [maxLen] using hcm, by simp, fun h0 => ⟨g, 0, rfl, (Array.getElem?_eq_some_iff.1 hg).1, fun i x hx j u hu => ?_⟩⟩, ?_⟩
    · have hi := (List.getElem?_eq_some_iff.1 hx).1
      have hj := (List.getElem?_eq_some_iff.1 hu).1
      rw [E.len] at hj
      have := World.ownsRow.cellAt h (i * k + j) (by have : (i + 1) * k ≤ Z.length * k := Nat.mul_le_mul_right _ hi; rw [Nat.add_mul] at this; omega)
      rw [Nat.zero_add, this]
      exact cl_get E Z i x hx j u hu
    · rintro ad ⟨⟩
      exact ⟨rfl, (hlt g rfl).1, (hlt g rfl).2, rfl, fun i => Lib.frozen_of_heap hg i⟩
/-- A literal: its elements in a new block. -/
theorem Ow.made (E : Enc k enc) (w : World) (l : List α) (cs : Array Value) (h : cs.toList = cl enc l) (hb : base ≤ w.heap.size) (hl : l.length ≤ 1000000) : Ow et k enc base (w.alloc (.cells cs et)) (.slice (some ⟨w.heap.size, 0, none⟩) l.length l.length) l := by
  have hs : cs.size = l.length * k := by rw [← Array.length_toList, h, cl_length E]
  refine ⟨cl_length E l, .inr ⟨w.heap.size, l.length, cs, rfl, hb, heap_alloc_new w _, Nat.le_refl _, by unfold maxLen; omega, hs, ?_⟩⟩
  rw [h, List.take_of_length_le (by rw [cl_length E]; exact Nat.le_refl _)]
theorem Ow.to (E : Enc k enc) (h : Ow et k enc base w v Z) {A : Option Addr} {n cap : Nat} (hv : v = .slice A n cap) (m : Nat) (hm : m ≤ Z.length) : Ow et k enc base w (.slice A m cap) (Z.take m) := by
  have hl : (Z.take m).length = m := by rw [List.length_take]; omega
  rcases h.2 with ⟨h1, hn⟩ | ⟨g, cap', cur, h1, hb, hg, hnc, hcm, hcs, ht⟩
  · rw [hv] at h1
    injection h1 with h1 h2 h3
    subst h1; subst h3
    have : m = 0 := by omega
    subst this
    exact World.ownsRow_nil _ _ _ _
  · rw [hv] at h1
    injection h1 with h1 h2 h3
    subst h1; subst h3
    refine ⟨cl_length E _, .inr ⟨g, cap, cur, by rw [hl], hb, hg, by rw [hl]; omega, hcm, hcs, ?_⟩⟩
    rw [hl, ← cl_take E, ← ht, List.take_take]
    congr 1
    exact (Nat.min_eq_left (Nat.mul_le_mul_right _ hm)).symm
/-- One cell is stored. -/
theorem Ow.set (E : Enc k enc) {g n cap : Nat} (h : Ow et k enc base w (.slice (some ⟨g, 0, none⟩) n cap) Z) {i j : Nat} {x x' : α} {u : Value} (hx : Z[i]? = some x) (hj : j < k) (he : enc x' = (enc x).set j u) :
    Ow et k enc base (w.setCell ⟨g, i * k + j, none⟩ u) (.slice (some ⟨g, 0, none⟩) n cap) (Z.set i x') := by
  rcases h.2 with ⟨h1, hn⟩ | ⟨g', cap', cur, h1, hb, hg, hnc, hcm, hcs, ht⟩
  · cases h1
  · injection h1 with h1 h2 h3
    injection h1 with h1
    injection h1 with h1 _ _
    subst h1; subst h3
    refine ⟨cl_length E _, .inr ⟨g, cap, _, by rw [List.length_set, h2], hb, ow_set_heap _ _ hg, by rw [List.length_set]; exact hnc, hcm, by simpa using hcs, ?_⟩⟩
    rw [List.length_set, ← cl_set E Z i j x x' u hx hj he, ← ht, Array.toList_setIfInBounds, List.take_set]

/-- append of a slice onto a slice of the call's own. -/
theorem run_append_ow {P : Program} (E : Enc k enc) (T ty : TypeId) (ht : P.underlying T = some (.slice et)) {zero : Value} {bytes : Nat} (hi : (P.info? et).map (fun i => (i.zero, i.size, i.bytes)) = some (some zero, k, bytes)) (hz : zero.cells.size = k)
    (hown : Ow et k enc base w v Z) (A : Option Addr) (m c : Nat) (l : List α) (hB : Sl k enc w A m c l) (hbytes : (Z.length + l.length) * bytes ≤ 140737488355328) (hsm : Z.length + l.length ≤ 1000000000) (hbase : base ≤ w.heap.size) :
    ∃ v' w', (Builtin.append_ #[T, T] ty #[v, .slice A m c]).run P w = .ok v' w' ∧ Ow et k enc base w' v' (Z ++ l) ∧ But (foot v) w w' ∧ Sprung w v v' ∧ (v'.ownBlock = v.ownBlock ∨ v'.ownBlock = some w.heap.size) := by
  obtain ⟨i, hi0, hz', hsz, hby⟩ := info_parts hi
  have hl := hB.len
  cases A with
  | none =>
    obtain ⟨h0, h1⟩ := hB.nil rfl
    subst h0; subst h1
    have hnil : l = [] := List.eq_nil_of_length_eq_zero hl
    subst hnil
    exact ⟨v, w, run_append_owned_none (P := P) (w := w) base T ty et i k ht hi0 v _ _ hown, by simpa using hown, But.refl _ _, Sprung.refl _ _, .inl rfl⟩
  | some ad =>
    have hcells : ∀ j u, (cl enc l)[j]? = some u → w.cell? (ad.add j) = some u := by
      intro q u hu
      obtain ⟨i', j', x, rfl, hx, hxu⟩ := cl_back E l q u hu
      have hq := (List.getElem?_eq_some_iff.1 hx).1
      obtain ⟨b, off, e, _, hc⟩ := hB.rd (by omega)
      obtain rfl := Option.some.inj e
      have := hc i' x hx j' u hxu
      rw [Addr.add_lit]
      rwa [show off + i' * k + j' = off + (i' * k + j') by omega] at this
    obtain ⟨v', w', hr', h1, h2, _, h4⟩ := run_append_own_at (P := P) w base T ty et i zero k bytes ht hi0 hz' hsz hby hz E.pos v Z.length (cl enc Z) hown ad m c (cl enc l) (by rw [cl_length E, hl]) hcells (cl_one E l) (by unfold maxLen; omega) (by rw [← hl]; exact hbytes) hbase
    have hbut : But (foot v) w w' := But.grown h2 (fun g hg => mem_foot.2 hg)
    have hspr : Sprung w v v' := fun g hg => by
      rcases h4 with h4 | h4
      · exact .inl (h4 ▸ hg)
      · rw [h4] at hg; simp at hg; exact .inr (by omega)
    exact ⟨v', w', hr', by unfold Ow; rw [cl_append, List.length_append, hl]; exact h1, hbut, hspr, h4⟩
/-- What an append leaves. -/
def AppSt (et : TypeId) (k : Nat) (enc : α → List Value) (base : Nat) (w : World) (v : Value) (Z' : List α) (v' : Value) (w' : World) : Prop :=
  Ow et k enc base w' v' Z' ∧ But (foot v) w w' ∧ Sprung w v v'
theorem wpList_append_ow {P : Program} {ops : Array Oper} {rest : List Oper} {o : Oper} {a : Act} {Q : Exit → Act → World → Prop} (hgd : o.guard = none) (T : TypeId) (s x : Operand)
    (ho : o.op = .call { callee := .builtin .append, args := #[s, x], argTypes := #[T, T] }) (E : Enc k enc)
    (ht : P.underlying T = some (.slice et)) {zero : Value} {bytes : Nat} (hi : (P.info? et).map (fun i => (i.zero, i.size, i.bytes)) = some (some zero, k, bytes)) (hz : zero.cells.size = k)
    (hs : a.eval s = v) (hown : Ow et k enc base w v Z) (A : Option Addr) (m c : Nat) (l : List α) (hx : a.eval x = .slice A m c) (hB : Sl k enc w A m c l)
    (hbytes : (Z.length + l.length) * bytes ≤ 140737488355328) (hsm : Z.length + l.length ≤ 1000000000) (hbase : base ≤ w.heap.size)
    (h : ∀ v' w', AppSt et k enc base w v (Z ++ l) v' w' → wpList P ops Q rest (a.put o.dst v') w') : wpList P ops Q (o :: rest) a w := by
  refine wpList_plain hgd fun K hK => ?_
  obtain ⟨v', w', hr, h2, h3, h4, _⟩ := run_append_ow (P := P) E T o.type ht hi hz hown A m c l hB hbytes hsm hbase
  unfold Oper.wp execOp
  simp only [ho, resolve, invoke, builtin, Sem.run_bind, Sem.run_pure, Result.andThen_ok, List.map_toArray, List.map_cons, List.map_nil, hs, hx, hr]
  exact hK _ _ (h v' w' ⟨h2, h3, h4⟩)
/-- One element in a new slice. -/
theorem Sl.one (E : Enc k enc) (w : World) (x : α) (cs : Array Value) (h : cs.toList = enc x) : Sl k enc (w.alloc (.cells cs et)) (some ⟨w.heap.size, 0, none⟩) 1 1 [x] :=
  ⟨rfl, Nat.le_refl _, by omega, by simp, fun _ => ⟨w.heap.size, 0, rfl, by simp, fun i y hy j u hu => by
    have hi : i = 0 := by have := (List.getElem?_eq_some_iff.1 hy).1; simp at this; omega
    subst hi
    simp at hy
    subst hy
    rw [Lib.cell_of_heap (heap_alloc_new w _), Nat.zero_mul, Nat.zero_add]
    rw [← h] at hu
    simpa using hu⟩⟩
end
end Go.Proofs.YtojbahjebfcmgaaGreatDoor
