/-
  Package sexp: texts.
-/
import Derived.Test.YtjffppfgappikaaSd
import Derived.ScopeJumps
import Derived.Deep.Cut
namespace Go.Proofs.Ytjffppfgappikaa
open Go.RowKit
set_option linter.unusedVariables false

/-- A scope with one label to which it jumps back: what holds there is said of the slots s; the code behind the label is walked once. -/
theorem wp_scope_once {P : Program} {c R : Code} {Q : Exit → Act → World → Prop} {a : Act} {w : World} (l n : Nat) (JJ : (Nat → Value) → World → Prop) (μ : (Nat → Value) → World → Nat) (hf : findLabel c l = some (.seq .skip R))
    (pass : ∀ s w, JJ s w → R.wp P (Exit.jump l (fun a' w' => (a'.defers = [] ∧ a'.tmps.size = n ∧ JJ (fun d => a'.eval (.tmp d)) w') ∧ μ (fun d => a'.eval (.tmp d)) w' < μ s w) Q) ⟨((List.range n).map s).toArray, []⟩ w)
    (first : (∀ (a : Act) w, a.defers = [] → a.tmps.size = n → JJ (fun d => a.eval (.tmp d)) w → R.wp P (Exit.jump l (fun a' w' => a'.defers = [] ∧ a'.tmps.size = n ∧ JJ (fun d => a'.eval (.tmp d)) w') Q) a w) →
      c.wp P (Exit.jump l (fun a' w' => a'.defers = [] ∧ a'.tmps.size = n ∧ JJ (fun d => a'.eval (.tmp d)) w') Q) a w) : (Code.scope c).wp P Q a w := by
  have pass' : ∀ (a : Act) w, (a.defers = [] ∧ a.tmps.size = n ∧ JJ (fun d => a.eval (.tmp d)) w) → R.wp P (Exit.jump l (fun a' w' => (a'.defers = [] ∧ a'.tmps.size = n ∧ JJ (fun d => a'.eval (.tmp d)) w') ∧ (fun (a : Act) w => μ (fun d => a.eval (.tmp d)) w) a' w' < (fun (a : Act) w => μ (fun d => a.eval (.tmp d)) w) a w) Q) a w := by
    rintro a w ⟨h1, h2, h3⟩
    have := pass (fun d => a.eval (.tmp d)) w h3
    have e : a = ⟨((List.range n).map fun d => a.eval (.tmp d)).toArray, []⟩ := by rw [← h1]; exact frame_eq h2
    rw [← e] at this
    exact this
  refine wp_scope_jumps l _ (fun a w => μ (fun d => a.eval (.tmp d)) w) hf (first fun a w h1 h2 h3 => Code.wp_mono ?_ (pass' a w ⟨h1, h2, h3⟩)) (fun a w h => wp_seq (wp_skip (pass' a w h)))
  intro e a' w' h
  cases e with
  | goto l' => exact ⟨h.1, h.2.1⟩
  | _ => exact h

theorem sxText_esc (B : By) (c : UInt8) (q : By) (i : Nat) (hp : sxPlain c = false) (hc : c.toNat = 92) : sxTextGo B (c :: q) i =
    if (sxEscaped q).2 = 0 then sxTextGo (B ++ [(sxEscaped q).1]) (q.drop 2) (i + 3) else if (sxEscaped q).2 = 10 then sxWrong 10 (i + 1 + q.length) else sxWrong 12 i := by
  conv => lhs; unfold sxTextGo
  rw [hp]
  simp only [Bool.false_eq_true, if_false, hc]
  cases q with
  | nil => simp [sxEscaped]
  | cons x q1 =>
    cases hx : sxHex x with
    | none => simp [sxEscaped, hx]
    | some a =>
      cases q1 with
      | nil => simp [sxEscaped, hx]
      | cons y q2 =>
        cases hy : sxHex y with
        | none => simp [sxEscaped, hx, hy]
        | some b => simp [sxEscaped, hx, hy]
theorem sxEsc_why (q : By) : (sxEscaped q).2 = 0 ∨ (sxEscaped q).2 = 10 ∨ (sxEscaped q).2 = 12 := by
  cases q with
  | nil => simp [sxEscaped]
  | cons x q1 =>
    cases hx : sxHex x with
    | none => simp [sxEscaped, hx]
    | some a =>
      cases q1 with
      | nil => simp [sxEscaped, hx]
      | cons y q2 =>
        cases hy : sxHex y with
        | none => simp [sxEscaped, hx, hy]
        | some b => simp [sxEscaped, hx, hy]

theorem sxEsc_len (q : By) : (sxEscaped q).2 = 0 → 2 ≤ q.length := by
  cases q with
  | nil => simp [sxEscaped]
  | cons x q1 =>
    cases q1 with
    | nil => cases hx : sxHex x <;> simp [sxEscaped, hx]
    | cons y q2 => intro _; simp
/-- In the midst of a text: what has been read lies in a row of its own. -/
structure TxSt (g : Nat) (w0 : World) (A : Option Addr) (n cap : Nat) (b : By) (w : World) : Prop where
  row : Row w (.slice A n cap) b
  len : b.length = n
  high : ∀ k, (Value.slice A n cap).ownBlock = some k → g < k
  box : TkBox g (sxWrong 0 0) w
  ev : Ev w0 w
  base : w0.heap.size ≤ g
theorem TxSt.step {g : Nat} {w0 w w1 : World} {A : Option Addr} {n cap : Nat} {b B1 : By} {v1 : Value} (h : TxSt g w0 A n cap b w) (hr : Row w1 v1 B1) (hb : But (foot (.slice A n cap)) w w1) (hs : Sprung w (.slice A n cap) v1) :
    ∃ A1 n1 cap1, v1 = .slice A1 n1 cap1 ∧ TxSt g w0 A1 n1 cap1 B1 w1 := by
  obtain ⟨A1, cap1, rfl, _, _, _⟩ := hr.bs
  have hl := h.box.lt
  refine ⟨A1, _, cap1, rfl, hr, rfl, fun k hk => ?_, h.box.but hb (fun hm => Nat.lt_irrefl _ (h.high _ (mem_foot.1 hm))), ?_, h.base⟩
  · rcases hs k hk with h1 | h1
    · exact h.high k h1
    · omega
  · exact ((But.of_ev (K := foot (.slice A n cap)) h.ev).then hb).ev fun k hk => by have := h.high k (mem_foot.1 hk); have := h.base; omega
theorem TxSt.evs {g : Nat} {w0 w w1 : World} {A : Option Addr} {n cap : Nat} {b : By} (h : TxSt g w0 A n cap b w) (hE : Ev w w1) : TxSt g w0 A n cap b w1 :=
  ⟨h.row.ev hE, h.len, h.high, h.box.ev hE, h.ev.trans hE, h.base⟩

theorem sx_wrong_raw (why : Int) (fault : Nat) (w : World) :
    Calls Try.prog 20 #[.int .i64 why, .int .i64 (fault : Int)] w fun e w' => e = .returned (.agg #[.int .i64 0, .string ⟨#[]⟩, .int .i64 0, .slice none 0 0, .int .i64 0, .int .i64 0, .int .i64 why, .int .i64 (fault : Int)]) ∧ Ev w w' := sx_wrong why fault w
theorem sx_made_byte (w : World) (x : UInt8) : Bs (w.alloc (.cells #[.int .u8 (x.toNat : Int)] 5)) (some ⟨w.heap.size, 0, none⟩) 1 1 [x] := Bs.made [x] _ rfl (by simp)
theorem sx_drop_cons (l : By) (j : Nat) (c : UInt8) (h : l[j]? = some c) : l.drop j = c :: l.drop (j + 1) := by
  obtain ⟨hj, e⟩ := List.getElem?_eq_some_iff.1 h
  rw [List.drop_eq_getElem_cons hj, e]

set_option maxRecDepth 100000 in
set_option maxHeartbeats 4000000 in
theorem sx_text (s0 : ByteArray) (w : World) (h1s : 1 ≤ s0.size) (hs : s0.size ≤ 100000) :
    Calls Try.prog 15 #[.string s0] w fun e w' => e = .returned (tkv (sxTextGo [] (s0.data.toList.drop 1) 1)) ∧ Ev w w' := by
  have hll : s0.data.toList.length = s0.size := by rw [Array.length_toList]; rfl
  obtain ⟨Y, hY⟩ : ∃ Y, Y = sxTextGo [] (s0.data.toList.drop 1) 1 := ⟨_, rfl⟩
  rw [← hY]
  have HY := Lib.hid hY
  have HL := Lib.hid hll
  clear hY hll
  go_enter Try.func15, Try.ntmps15
  go_wp2
  refine wp_scope_once 0 78 (fun s w2 => s 0 = .string s0 ∧ s 2 = .pointer (some ⟨w.heap.size, 0, none⟩) ∧ ∃ (b : By) (i n cap : Nat) (A : Option Addr), s 3 = .slice A n cap ∧ s 4 = .int .i64 (i : Int) ∧ 1 ≤ i ∧ i ≤ s0.size ∧ n ≤ i ∧ TxSt w.heap.size w A n cap b w2 ∧ Hid (Y = sxTextGo b (s0.data.toList.drop i) i)) (fun s _ => s0.size - (intOf (s 4)).toNat) rfl ?_ ?_
  · rintro s w2 ⟨h0, h2, b, i, n, cap, A, h3, h4, hi1, hi, hni, ST, HT⟩
    change Code.wp _ _ _ ⟨#[s 0, s 1, s 2, s 3, s 4, s 5, s 6, s 7, s 8, s 9, s 10, s 11, s 12, s 13, s 14, s 15, s 16, s 17, s 18, s 19, s 20, s 21, s 22, s 23, s 24, s 25, s 26, s 27, s 28, s 29, s 30, s 31, s 32, s 33, s 34, s 35, s 36, s 37, s 38, s 39, s 40, s 41, s 42, s 43, s 44, s 45, s 46, s 47, s 48, s 49, s 50, s 51, s 52, s 53, s 54, s 55, s 56, s 57, s 58, s 59, s 60, s 61, s 62, s 63, s 64, s 65, s 66, s 67, s 68, s 69, s 70, s 71, s 72, s 73, s 74, s 75, s 76, s 77], []⟩ _
    simp only [h0, h2, h3, h4]
    clear h0 h2
    obtain ⟨r, hr⟩ : ∃ r : ByteArray, r = s0.extract i s0.size := ⟨_, rfl⟩
    have hx : s0.extract i s0.size = r := hr.symm
    have hrl : r.data.toList = s0.data.toList.drop i := by rw [hr, Lib.extract_eq, List.take_of_length_le (by rw [List.length_drop, HL.out]; exact Nat.le_refl _)]
    have hrz : r.size = s0.size - i := by
      have : r.data.toList.length = r.size := by rw [Array.length_toList]; rfl
      rw [← this, hrl, List.length_drop, HL.out]
    have HR := Lib.hid (fun w1 => sx_run_isPlain r w1 (by omega))
    rw [hrl] at HR
    have hple := sxRun_le sxPlain (s0.data.toList.drop i)
    have hstop := fun c h => sxRun_stop sxPlain (s0.data.toList.drop i) c h
    have hgo := sxTextGo_run (s0.data.toList.drop i) b i
    rw [← HT.out, List.drop_drop] at hgo
    rw [List.length_drop, HL.out] at hple
    generalize hp : sxRun sxPlain (s0.data.toList.drop i) = p at *
    have hml : (s0.extract i (i + p)).data.toList = (s0.data.toList.drop i).take p := by rw [Lib.extract_eq, show i + p - i = p by omega]
    have hmz : (s0.extract i (i + p)).size = p := by
      have : (s0.extract i (i + p)).data.toList.length = (s0.extract i (i + p)).size := by rw [Array.length_toList]; rfl
      rw [← this, hml, List.length_take, List.length_drop, HL.out]
      omega
    have hstop' : ∀ c, s0.data.toList[i + p]? = some c → sxPlain c = false := fun c h => hstop c (by rw [List.getElem?_drop]; exact h)
    have HS := Lib.hid hstop'
    have HG := Lib.hid hgo
    have HM := Lib.hid hml
    have HB := Lib.hid ST.len
    have HZ := Lib.hid hmz
    clear hstop hstop' hgo hr hrl hp hml hmz HT
    go_upto_region 6 with (first
      | ((with_reducible refine (HR.out _).mono ?_); rintro e w3 ⟨rfl, rfl⟩)
      | ((show wpList _ _ _ (⟨some 19, _, _, _, _, _⟩ :: _) _ _); refine wpList_append_str (o := ⟨some 19, _, _, _, _, _⟩) rfl (.tmp 12) (.tmp 18) rfl Try.underlying44 Try.underlying9 Try.infoU8 (.slice A n cap) b rfl ST.row (s0.extract i (i + p)) rfl (by rw [HB.out, HZ.out]; omega) ?_; intro v1 w3 hr1 hb1 hs1; obtain ⟨A1, n1, cap1, rfl, ST1⟩ := ST.step hr1 hb1 hs1))
    rw [HM.out] at ST1
    have hn1 : n1 ≤ i + p := by
      rw [← ST1.len, List.length_append, List.length_take, HB.out]
      omega
    have hj : i + p ≤ s0.size := by omega
    have e1 : (i : Int) + (p : Int) = ((i + p : Nat) : Int) := by omega
    simp only [e1]
    generalize b ++ (s0.data.toList.drop i).take p = B1 at *
    have hij : i ≤ i + p := by omega
    generalize i + p = j at *
    clear hr1 hs1 hb1 HM HZ HR ST e1
    by_cases hjz : j = s0.size
    · have HSP : Hid (Y = sxWrong 10 s0.size) := Lib.hid (by
        rw [HG.out, List.drop_of_length_le (by rw [HL.out]; omega), hjz]
        rfl)
      have e2 : (j : Int) = (s0.size : Int) := by omega
      have HW := Lib.hid (fun w1 => sx_wrong_raw 10 s0.size w1)
      clear HG hjz
      go_wp2_with (first | ((with_reducible refine (HW.out _).mono ?_); rintro e w4 ⟨rfl, hE4⟩; have B4 := (ST1.evs hE4).box; have E4 := (ST1.evs hE4).ev; obtain ⟨c0, c1, c2, c3, c4, c5, c6, c7⟩ := B4.cs; obtain ⟨f0, f1, f2, f3, f4, f5, f6, f7⟩ := B4.fs))
      simp only [Exit.jump]
      rw [tkSet_fold]; refine bodyPost_ret (tk_done _ B4 _ _ _ _ _ _ rfl rfl) rfl ?_; exact ⟨by rw [HSP.out]; rfl, E4.over1 (tkSet_but _ _ _ _ _ _ _ _) (Nat.le_refl _)⟩
    · have hlt : j < s0.size := by omega
      have hat := sx_at s0 j hlt
      obtain ⟨c, hc⟩ : ∃ c, s0[j] = c := ⟨_, rfl⟩
      have hidx : ∀ hh, s0[j]'hh = c := fun _ => hc
      rw [hc] at hat
      have hpl := HS.out c hat
      have hdr := sx_drop_cons _ _ _ hat
      clear hc
      have e2 : ¬ ((j : Int) = (s0.size : Int)) := by omega
      have e2' : ((j : Int) == (s0.size : Int)) = false := beq_eq_false_iff_ne.2 e2
      have hjm : j ≤ 100000 := by omega
      by_cases h92 : c.toNat = 92
      · have hsp := sxText_esc B1 c (s0.data.toList.drop (j + 1)) j hpl h92
        rw [← hdr, ← HG.out] at hsp
        have e3 : (c.toNat : Int) = 92 := by omega
        obtain ⟨y, hy⟩ : ∃ y : ByteArray, y = s0.extract (j + 1) s0.size := ⟨_, rfl⟩
        have hxy : s0.extract (j + 1) s0.size = y := hy.symm
        have hyl : y.data.toList = s0.data.toList.drop (j + 1) := by rw [hy, Lib.extract_eq, List.take_of_length_le (by rw [List.length_drop, HL.out]; exact Nat.le_refl _)]
        have hyz : y.size = s0.size - (j + 1) := by
          have : y.data.toList.length = y.size := by rw [Array.length_toList]; rfl
          rw [← this, hyl, List.length_drop, HL.out]
        have HE := fun w1 => sx_escaped y w1 (by omega)
        rw [hyl] at HE
        rw [List.length_drop, HL.out, List.drop_drop] at hsp
        have hwhy := sxEsc_why (s0.data.toList.drop (j + 1))
        have hlen := sxEsc_len (s0.data.toList.drop (j + 1))
        rw [List.length_drop, HL.out] at hlen
        generalize sxEscaped (s0.data.toList.drop (j + 1)) = R at *
        obtain ⟨x, why⟩ := R
        simp only at HE hsp hwhy hlen
        have HE := Lib.hid HE
        have HSP := Lib.hid hsp
        clear hsp hy hyl hat hdr hpl HG
        rcases hwhy with rfl | rfl | rfl
        · have hj3 : j + 3 ≤ s0.size := by have := hlen rfl; omega
          have HB1 := Lib.hid (sx_made_byte w3 x)
          have HLN := Lib.hid ST1.len
          have HSQ : Hid (Y = sxTextGo (B1 ++ [x]) (s0.data.toList.drop (j + 3)) (j + 3)) := Lib.hid (by rw [HSP.out]; rfl)
          clear HSP hlen
          go_wp2_with (first
            | ((with_reducible refine (HE.out _).mono ?_); rintro e w4 ⟨rfl, rfl⟩)
            | ((show wpList _ _ _ (⟨some 57, _, _, _, _, _⟩ :: _) _ _); refine wpList_append_row (o := ⟨some 57, _, _, _, _, _⟩) rfl (.tmp 54) (.tmp 56) rfl Try.underlying44 Try.infoU8 (.slice A1 n1 cap1) B1 rfl (ST1.row.ev (Ev.alloc _ _)) (some ⟨w3.heap.size, 0, none⟩) 1 1 [x] rfl HB1.out (by rw [HLN.out]; simp; omega) ?_; intro v2 w5 hr2 hb2 hs2; obtain ⟨A2, n2, cap2, rfl, ST2⟩ := (ST1.evs (Ev.alloc _ _)).step hr2 hb2 hs2))
          go_step3
          exact ⟨rfl, ⟨rfl, rfl, rfl, rfl, B1 ++ [x], j + 3, n2, cap2, A2, rfl, rfl, by omega, hj3, by rw [← ST2.len, List.length_append, HLN.out]; simp; omega, ST2, HSQ⟩, by simp [Act.eval, intOf]; omega⟩
        · have HSQ : Hid (Y = sxWrong 10 s0.size) := Lib.hid (by rw [HSP.out]; simp; rw [show j + 1 + (s0.size - (j + 1)) = s0.size by omega])
          clear HSP hlen
          have HSP := HSQ
          clear HSQ
          have HW := Lib.hid (fun w1 => sx_wrong_raw 10 s0.size w1)
          go_wp2_with (first
            | ((with_reducible refine (HE.out _).mono ?_); rintro e w4 ⟨rfl, rfl⟩)
            | ((with_reducible refine (HW.out _).mono ?_); rintro e w4 ⟨rfl, hE4⟩; have B4 := (ST1.evs hE4).box; have E4 := (ST1.evs hE4).ev; obtain ⟨c0, c1, c2, c3, c4, c5, c6, c7⟩ := B4.cs; obtain ⟨f0, f1, f2, f3, f4, f5, f6, f7⟩ := B4.fs))
          simp only [Exit.jump]
          rw [tkSet_fold]; refine bodyPost_ret (tk_done _ B4 _ _ _ _ _ _ rfl rfl) rfl ?_; exact ⟨by rw [HSP.out]; rfl, E4.over1 (tkSet_but _ _ _ _ _ _ _ _) (Nat.le_refl _)⟩
        · have HSQ : Hid (Y = sxWrong 12 j) := Lib.hid (by rw [HSP.out]; simp)
          clear HSP hlen
          have HSP := HSQ
          clear HSQ
          have HW := Lib.hid (fun w1 => sx_wrong_raw 12 j w1)
          go_wp2_with (first
            | ((with_reducible refine (HE.out _).mono ?_); rintro e w4 ⟨rfl, rfl⟩)
            | ((with_reducible refine (HW.out _).mono ?_); rintro e w4 ⟨rfl, hE4⟩; have B4 := (ST1.evs hE4).box; have E4 := (ST1.evs hE4).ev; obtain ⟨c0, c1, c2, c3, c4, c5, c6, c7⟩ := B4.cs; obtain ⟨f0, f1, f2, f3, f4, f5, f6, f7⟩ := B4.fs))
          simp only [Exit.jump]
          rw [tkSet_fold]; refine bodyPost_ret (tk_done _ B4 _ _ _ _ _ _ rfl rfl) rfl ?_; exact ⟨by rw [HSP.out]; rfl, E4.over1 (tkSet_but _ _ _ _ _ _ _ _) (Nat.le_refl _)⟩
      · have h92' : (c.toNat == 92) = false := beq_eq_false_iff_ne.2 h92
        have e3 : ¬ ((c.toNat : Int) = 92) := by omega
        have e3' : ((c.toNat : Int) == 92) = false := beq_eq_false_iff_ne.2 e3
        by_cases h34 : c.toNat = 34
        · have HSP : Hid (Y = if 40 < B1.length then sxWrong 3 0 else ⟨4, B1, 0, j + 1, 0, 0⟩) := Lib.hid (by
            rw [HG.out, hdr]
            unfold sxTextGo
            rw [hpl]
            simp [h34])
          have e4 : (c.toNat : Int) = 34 := by omega
          have hln := ST1.len
          rw [hln] at HSP
          clear hdr hat HG hpl
          by_cases h40 : 40 < n1
          · have HSQ : Hid (Y = sxWrong 3 0) := Lib.hid (by rw [HSP.out, if_pos h40])
            clear HSP
            have HSP := HSQ
            clear HSQ
            have HW := fun w1 => sx_wrong_raw 3 0 w1
            rw [show (((0 : Nat) : Int)) = 0 from rfl] at HW
            have HW := Lib.hid HW
            have e5 : (40 : Int) < (n1 : Int) := by omega
            go_wp2_with (first | ((with_reducible refine (HW.out _).mono ?_); rintro e w4 ⟨rfl, hE4⟩; have B4 := (ST1.evs hE4).box; have E4 := (ST1.evs hE4).ev; obtain ⟨c0, c1, c2, c3, c4, c5, c6, c7⟩ := B4.cs; obtain ⟨f0, f1, f2, f3, f4, f5, f6, f7⟩ := B4.fs))
            simp only [Exit.jump]
            rw [tkSet_fold]; refine bodyPost_ret (tk_done _ B4 _ _ _ _ _ _ rfl rfl) rfl ?_; exact ⟨by rw [HSP.out]; rfl, E4.over1 (tkSet_but _ _ _ _ _ _ _ _) (Nat.le_refl _)⟩
          · have HSQ : Hid (Y = ⟨4, B1, 0, j + 1, 0, 0⟩) := Lib.hid (by rw [HSP.out, if_neg h40])
            clear HSP
            have HSP := HSQ
            clear HSQ
            have e5 : ¬ ((40 : Int) < (n1 : Int)) := by omega
            have B4 := ST1.box
            have E4 := ST1.ev
            obtain ⟨c0, c1, c2, c3, c4, c5, c6, c7⟩ := B4.cs
            obtain ⟨f0, f1, f2, f3, f4, f5, f6, f7⟩ := B4.fs
            obtain ⟨A1', cap1', hv, hbs, _, _⟩ := ST1.row.bs
            rw [hln] at hv hbs
            injection hv with hv1 hv2 hv3
            subst hv1
            subst hv3
            have hcv := hbs.str 44 9 5 Try.underlying44 Try.underlying5 Try.underlying9
            go_wp2
            simp only [Exit.jump]
            rw [tkSet_fold]; refine bodyPost_ret (tk_done _ B4 _ _ _ _ _ _ rfl rfl) rfl ?_; exact ⟨by rw [HSP.out]; rfl, E4.over1 (tkSet_but _ _ _ _ _ _ _ _) (Nat.le_refl _)⟩
        · have HSP : Hid (Y = sxWrong 12 j) := Lib.hid (by
            rw [HG.out, hdr]
            unfold sxTextGo
            rw [hpl]
            simp [h92', h34])
          have e4 : ¬ ((c.toNat : Int) = 34) := by omega
          have e4' : ((c.toNat : Int) == 34) = false := beq_eq_false_iff_ne.2 e4
          have HW := Lib.hid (fun w1 => sx_wrong_raw 12 j w1)
          clear hdr hat HG hpl
          go_wp2_with (first | ((with_reducible refine (HW.out _).mono ?_); rintro e w4 ⟨rfl, hE4⟩; have B4 := (ST1.evs hE4).box; have E4 := (ST1.evs hE4).ev; obtain ⟨c0, c1, c2, c3, c4, c5, c6, c7⟩ := B4.cs; obtain ⟨f0, f1, f2, f3, f4, f5, f6, f7⟩ := B4.fs))
          simp only [Exit.jump]
          rw [tkSet_fold]; refine bodyPost_ret (tk_done _ B4 _ _ _ _ _ _ rfl rfl) rfl ?_; exact ⟨by rw [HSP.out]; rfl, E4.over1 (tkSet_but _ _ _ _ _ _ _ _) (Nat.le_refl _)⟩
  · intro H
    go_wp2
    go_step3
    rename_i hK
    refine hK _ _ (H _ _ ?_ ?_ ?_)
    · rfl
    · rfl
    exact ⟨rfl, rfl, [], 1, 0, 0, none, rfl, rfl, by omega, h1s, by omega, ⟨Row.nil_ _, rfl, by simp [Value.ownBlock], TkBox.new (sxWrong 0 0) w, Ev.alloc _ _, Nat.le_refl _⟩, HY⟩
end Go.Proofs.Ytjffppfgappikaa
