/-
  Texts that belong together: What is printed of a tree is read as that tree (but for places), or is too long, or too deep. Plain facts.
-/
import Derived.Lib.ItoaNum
import Derived.Test.YtojbahjebfcmgaaGreatDoorZ23W
import Derived.Test.YtojbahjebfcmgaaGreatDoorZ15W
namespace Go.Proofs.YtojbahjebfcmgaaGreatDoor
open Go.RowKit
set_option linter.unusedVariables false

mutual
/-- A tree without places. -/
def T.strip : T → T
  | .mk k s n l _ => .mk k s n (T.strips l) 0
def T.strips : List T → List T
  | [] => []
  | t :: l => t.strip :: T.strips l
end
theorem T.strips_map : ∀ l : List T, T.strips l = l.map T.strip
  | [] => by simp [T.strips]
  | t :: l => by simp [T.strips, T.strips_map l]
theorem T.strip_mk (k : Int) (s : By) (n : Int) (l : List T) (p : Nat) : (T.mk k s n l p).strip = .mk k s n (l.map T.strip) 0 := by rw [T.strip, T.strips_map]
mutual
/-- How many brackets lie within one another. -/
def T.deep : T → Nat
  | .mk k _ _ l _ => if k = 1 then T.deeps l + 1 else 0
def T.deeps : List T → Nat
  | [] => 0
  | t :: l => max t.deep (T.deeps l)
end
def fineLeaf (k : Int) (s : By) (n : Int) (l : List T) : Bool :=
  (k == 2 && (!s.isEmpty && s.all sxLetter) && (n == 0 && decide (s.length ≤ 1000)) && l.isEmpty) || (k == 3 && s.isEmpty && (decide (-9223372036854775808 ≤ n) && decide (n ≤ 9223372036854775807)) && l.isEmpty) || (k == 4 && decide (s.length ≤ 40) && n == 0 && l.isEmpty)
mutual
/-- Its signs are such as are read again. -/
def T.fine : T → Bool
  | .mk k s n l _ => (k == 1 && s.isEmpty && n == 0 && T.fines l) || fineLeaf k s n l
def T.fines : List T → Bool
  | [] => true
  | t :: l => t.fine && T.fines l
end
theorem all8 (p : UInt8 → Bool) (h : ∀ i : Fin 256, p (UInt8.ofNat i.val) = true) (c : UInt8) : p c = true := by
  have h1 := h ⟨c.toNat, c.toNat_lt⟩
  simpa using h1
theorem plain_eq (c : UInt8) : sxPlain c = plainB c := by
  have := all8 (fun c => sxPlain c == plainB c) (by decide +kernel) c
  exact beq_iff_eq.1 this
theorem hex_back (c : UInt8) : sxHex (hexB (c.toNat / 16)) = some (c.toNat / 16) ∧ sxHex (hexB (c.toNat % 16)) = some (c.toNat % 16) ∧ UInt8.ofNat (16 * (c.toNat / 16) + c.toNat % 16) = c := by
  have := all8 (fun c => sxHex (hexB (c.toNat / 16)) == some (c.toNat / 16) && (sxHex (hexB (c.toNat % 16)) == some (c.toNat % 16) && UInt8.ofNat (16 * (c.toNat / 16) + c.toNat % 16) == c)) (by decide +kernel) c
  simp only [Bool.and_eq_true, beq_iff_eq] at this
  exact this
theorem letter_no (c : UInt8) (h : sxLetter c = true) : (c.toNat == 40) = false ∧ (c.toNat == 41) = false ∧ (c.toNat == 34) = false ∧ (c.toNat == 45 || sxDigit c) = false ∧ sxBlank c = false := by
  have := all8 (fun c => !sxLetter c || (!(c.toNat == 40) && (!(c.toNat == 41) && (!(c.toNat == 34) && (!(c.toNat == 45 || sxDigit c) && !sxBlank c))))) (by decide +kernel) c
  rw [h] at this
  simpa using this
theorem digit_no (c : UInt8) (h : sxDigit c = true) : (c.toNat == 40) = false ∧ (c.toNat == 41) = false ∧ (c.toNat == 34) = false ∧ (c.toNat == 45) = false ∧ sxBlank c = false := by
  have := all8 (fun c => !sxDigit c || (!(c.toNat == 40) && (!(c.toNat == 41) && (!(c.toNat == 34) && (!(c.toNat == 45) && !sxBlank c))))) (by decide +kernel) c
  rw [h] at this
  simpa using this
/-- Behind a token: nothing, a blank, or a bracket that closes. -/
def Delim (r : By) : Prop := r = [] ∨ ∃ c q, r = c :: q ∧ (c = 32 ∨ c = 41)
theorem sxRun_app (p : UInt8 → Bool) {r : By} (hr : ∀ c q, r = c :: q → p c = false) : ∀ s : By, (∀ c ∈ s, p c = true) → sxRun p (s ++ r) = s.length
  | [], _ => by
    cases r with
    | nil => rfl
    | cons c q => simp [sxRun, hr c q rfl]
  | c :: s, h => by
    have h1 := sxRun_app p hr s fun x hx => h x (List.mem_cons_of_mem _ hx)
    simp only [List.cons_append, sxRun, h c (List.mem_cons_self ..), if_true, h1, List.length_cons]
theorem delim_no {r : By} (h : Delim r) : ∀ c q, r = c :: q → sxLetter c = false ∧ sxDigit c = false := by
  rintro c q rfl
  rcases h with h | ⟨c', q', h, hc⟩
  · cases h
  · injection h with h1 h2
    subst h1
    rcases hc with rfl | rfl <;> exact ⟨by decide, by decide⟩
theorem scan_atom {s r : By} (hs : s ≠ []) (hl : ∀ c ∈ s, sxLetter c = true) (hr : Delim r) : sxScan (s ++ r) = ⟨2, s, 0, s.length, 0, 0⟩ := by
  have hrun := sxRun_app sxLetter (fun c q e => (delim_no hr c q e).1) s hl
  cases s with
  | nil => exact absurd rfl hs
  | cons c s =>
    have hc := hl c (List.mem_cons_self ..)
    obtain ⟨h1, h2, h3, h4, _⟩ := letter_no c hc
    rw [List.cons_append] at hrun ⊢
    unfold sxScan
    simp only [h1, h2, h3, h4, hc, Bool.false_eq_true, if_false, if_true, hrun]
    rw [← List.cons_append, List.take_left]
theorem digit_of {d : Nat} (h : d < 10) : sxDigit (UInt8.ofNat (48 + d)) = true ∧ ((UInt8.ofNat (48 + d)).toNat : Int) - 48 = (d : Int) := by
  have : ∀ d : Fin 10, sxDigit (UInt8.ofNat (48 + d.val)) = true ∧ ((UInt8.ofNat (48 + d.val)).toNat : Int) - 48 = (d.val : Int) := by decide +kernel
  exact this ⟨d, h⟩
theorem below_app : ∀ (l : By) (c : UInt8) (n : Int), sxBelow (l ++ [c]) n = match sxBelow l n with | none => none | some m => sxBelow [c] m
  | [], c, n => rfl
  | x :: l, c, n => by
    simp only [List.cons_append]
    conv => lhs; unfold sxBelow
    conv => rhs; unfold sxBelow
    split
    · rfl
    · exact below_app l c _
theorem dec_facts (u : Nat) : u ≤ 9223372036854775808 → (∀ c ∈ Lib.decDigits u, sxDigit c = true) ∧ sxBelow (Lib.decDigits u) 0 = some (-(u : Int)) ∧ Lib.decDigits u ≠ [] := by
  induction u using Nat.strongRecOn with
  | _ u ih =>
    intro hu
    by_cases h : u < 10
    · obtain ⟨h1, h2⟩ := digit_of h
      rw [Lib.decDigits_one h]
      refine ⟨fun c hc => by rw [List.mem_singleton] at hc; rw [hc]; exact h1, ?_, by simp⟩
      unfold sxBelow
      rw [h2, if_neg (by omega)]
      unfold sxBelow
      congr 1
      omega
    · obtain ⟨h1, h2, h3⟩ := ih (u / 10) (by omega) (by omega)
      obtain ⟨d1, d2⟩ := digit_of (show u % 10 < 10 by omega)
      rw [Lib.decDigits, dif_neg h]
      refine ⟨fun c hc => ?_, ?_, by simp⟩
      · rcases List.mem_append.1 hc with hc | hc
        · exact h1 c hc
        · rw [List.mem_singleton] at hc; rw [hc]; exact d1
      · rw [below_app, h2]
        simp only
        unfold sxBelow
        rw [d2, if_neg (by omega)]
        unfold sxBelow
        congr 1
        omega
theorem digits_app {d r : By} (hd : ∀ c ∈ d, sxDigit c = true) (hr : Delim r) : sxDigits (d ++ r) = d := by
  unfold sxDigits
  rw [sxRun_app sxDigit (fun c q e => (delim_no hr c q e).2) d hd, List.take_left]
theorem scan_num {n : Int} {r : By} (h1 : -9223372036854775808 ≤ n) (h2 : n ≤ 9223372036854775807) (hr : Delim r) : sxScan (Lib.itoa n ++ r) = ⟨3, [], n, (Lib.itoa n).length, 0, 0⟩ := by
  unfold Lib.itoa
  split
  · rename_i hn
    obtain ⟨hd, hb, hne⟩ := dec_facts n.natAbs (by omega)
    have he : (Lib.decDigits n.natAbs).isEmpty = false := by cases h : Lib.decDigits n.natAbs with | nil => exact absurd h hne | cons a b => rfl
    rw [List.cons_append]
    unfold sxScan
    have c1 : ((45 : UInt8).toNat == 40) = false := by decide
    have c2 : ((45 : UInt8).toNat == 41) = false := by decide
    have c3 : ((45 : UInt8).toNat == 34) = false := by decide
    have c4 : ((45 : UInt8).toNat == 45) = true := by decide
    simp only [c1, c2, c3, c4, Bool.true_or, Bool.false_eq_true, if_false, if_true]
    unfold sxNumber
    simp only [c4, if_true]
    rw [digits_app hd hr]
    unfold sxNum
    rw [hb]
    simp only [he, Bool.false_and, Bool.or_self, Bool.false_eq_true, if_false]
    congr 1
    · omega
    · rw [List.length_cons]; omega
  · rename_i hn
    obtain ⟨hd, hb, hne⟩ := dec_facts n.toNat (by omega)
    cases hl : Lib.decDigits n.toNat with
    | nil => exact absurd hl hne
    | cons c q =>
      rw [hl] at hd hb
      obtain ⟨n1, n2, n3, n4, _⟩ := digit_no c (hd c (List.mem_cons_self ..))
      rw [List.cons_append]
      unfold sxScan
      simp only [n1, n2, n3, hd c (List.mem_cons_self ..), Bool.or_true, Bool.false_eq_true, if_false, if_true]
      unfold sxNumber
      simp only [n4, Bool.false_eq_true, if_false]
      rw [← List.cons_append, digits_app hd hr]
      unfold sxNum
      rw [hb]
      have hx : decide (-(n.toNat : Int) = -9223372036854775808) = false := decide_eq_false (by omega)
      simp only [hx, List.isEmpty_cons, Bool.and_false, Bool.or_self, Bool.false_eq_true, if_false, if_true]
      congr 1
      omega
theorem text_go : ∀ (s b : By) (r : By) (i : Nat), sxTextGo b (s.flatMap showB ++ 34 :: r) i = if 40 < (b ++ s).length then sxWrong 3 0 else ⟨4, b ++ s, 0, i + (s.flatMap showB).length + 1, 0, 0⟩
  | [], b, r, i => by
    simp only [List.flatMap_nil, List.nil_append, List.append_nil]
    unfold sxTextGo
    have c1 : sxPlain (34 : UInt8) = false := by decide
    have c2 : ((34 : UInt8).toNat == 92) = false := by decide
    have c3 : ((34 : UInt8).toNat == 34) = true := by decide
    simp only [c1, c2, c3, Bool.false_eq_true, if_false, if_true]
    rfl
  | c :: s, b, r, i => by
    have ih := text_go s (b ++ [c]) r
    rw [List.flatMap_cons, List.append_assoc]
    by_cases hp : plainB c = true
    · have e : showB c = [c] := by unfold showB; rw [if_pos hp]
      rw [e]
      simp only [List.cons_append, List.nil_append]
      conv => lhs; unfold sxTextGo
      simp only [plain_eq, hp, if_true]
      rw [ih (i + 1)]
      simp only [List.append_assoc, List.cons_append, List.nil_append, List.length_cons]
      congr 2
      omega
    · have hp' : plainB c = false := by simpa using hp
      have e : showB c = [92, hexB (c.toNat / 16), hexB (c.toNat % 16)] := by unfold showB; rw [if_neg hp]
      obtain ⟨x1, x2, x3⟩ := hex_back c
      rw [e]
      simp only [List.cons_append, List.nil_append]
      conv => lhs; unfold sxTextGo
      have c1 : sxPlain (92 : UInt8) = false := by decide
      have c2 : ((92 : UInt8).toNat == 92) = true := by decide
      simp only [c1, c2, Bool.false_eq_true, if_false, if_true, x1, x2, x3]
      rw [ih (i + 3)]
      simp only [List.append_assoc, List.cons_append, List.nil_append, List.length_cons]
      congr 2
      omega
theorem scan_quote {s r : By} (h : s.length ≤ 40) : sxScan (quoteB s ++ r) = ⟨4, s, 0, (quoteB s).length, 0, 0⟩ := by
  unfold quoteB
  rw [List.cons_append, List.append_assoc]
  unfold sxScan
  have c1 : ((34 : UInt8).toNat == 40) = false := by decide
  have c2 : ((34 : UInt8).toNat == 41) = false := by decide
  have c3 : ((34 : UInt8).toNat == 34) = true := by decide
  simp only [c1, c2, c3, Bool.false_eq_true, if_false, if_true]
  have := text_go s [] r 1
  simp only [List.nil_append] at this
  rw [List.cons_append, List.nil_append, this, if_neg (by omega)]
  congr 1
  rw [List.length_cons, List.length_append]
  simp only [List.length_cons, List.length_nil]
  omega
theorem show_fine {s : By} (h : s.length ≤ 40) : showV 2 0 ⟨s.toArray⟩ = quoteB s := by
  have hr : rightV 2 0 ⟨s.toArray⟩ = true := by simp [rightV, ByteArray.size, h]
  simp [showV, hr]
/-- A leaf: its token. -/
theorem leaf_scan {k : Int} {s : By} {n : Int} {l : List T} {p : Nat} (h : fineLeaf k s n l = true) {r : By} (hr : Delim r) :
    ∃ c q, printS (.mk k s n l p) = c :: q ∧ sxBlank c = false ∧ sxScan (printS (.mk k s n l p) ++ r) = ⟨k, s, n, (printS (.mk k s n l p)).length, 0, 0⟩ ∧ (k == 1) = false ∧ (k == -1) = false ∧ l = [] := by
  unfold fineLeaf at h
  simp only [Bool.or_eq_true, Bool.and_eq_true, beq_iff_eq, decide_eq_true_eq, Bool.not_eq_true', List.isEmpty_iff, List.all_eq_true] at h
  rcases h with (⟨⟨⟨rfl, hs, hl⟩, rfl, _⟩, rfl⟩ | ⟨⟨⟨rfl, rfl⟩, h1, h2⟩, rfl⟩) | ⟨⟨⟨rfl, hs⟩, rfl⟩, rfl⟩
  · have e : printS (.mk 2 s 0 [] p) = s := by simp [printS]
    have hs' : s ≠ [] := by rintro rfl; simp at hs
    rw [e, scan_atom hs' hl hr]
    cases s with
    | nil => exact absurd rfl hs'
    | cons c q => exact ⟨c, q, rfl, (letter_no c (hl c (List.mem_cons_self ..))).2.2.2.2, rfl, rfl, rfl, rfl⟩
  · have e : printS (.mk 3 [] n [] p) = Lib.itoa n := by simp [printS]
    rw [e, scan_num h1 h2 hr]
    have : ∃ c q, Lib.itoa n = c :: q ∧ sxBlank c = false := by
      unfold Lib.itoa
      split
      · exact ⟨45, _, rfl, by decide⟩
      · rename_i hn
        obtain ⟨hd, _, hne⟩ := dec_facts n.toNat (by omega)
        cases hl : Lib.decDigits n.toNat with
        | nil => exact absurd hl hne
        | cons c q =>
          rw [hl] at hd
          exact ⟨c, q, rfl, (digit_no c (hd c (List.mem_cons_self ..))).2.2.2.2⟩
    obtain ⟨c, q, h3, h4⟩ := this
    exact ⟨c, q, h3, h4, rfl, rfl, rfl, rfl⟩
  · have e : printS (.mk 4 s 0 [] p) = quoteB s := by simp [printS, show_fine hs]
    rw [e, scan_quote hs]
    exact ⟨34, _, rfl, by decide, rfl, rfl, rfl, rfl⟩
theorem open_print (p : Nat) (s : By) (n : Int) (l : List T) : printS (.mk 1 s n l p) = 40 :: (printL true l ++ [41]) := by simp [printS]
theorem fine_first {t : T} (h : t.fine = true) : ∃ c q, printS t = c :: q ∧ sxBlank c = false := by
  cases t with
  | mk k s n l p =>
    rw [T.fine, Bool.or_eq_true] at h
    rcases h with h | h
    · simp only [Bool.and_eq_true, beq_iff_eq] at h
      obtain ⟨⟨⟨rfl, _⟩, _⟩, _⟩ := h
      exact ⟨40, _, open_print p s n l, by decide⟩
    · obtain ⟨c, q, h1, h2, _⟩ := leaf_scan (p := p) h (r := []) (.inl rfl)
      exact ⟨c, q, h1, h2⟩
theorem go_blanks {c : UInt8} {q : By} (hb : sxBlank c = false) (f : Nat) (os : List T) (pos : Nat) : sxGo (f + 1) os (32 :: c :: q) pos = sxGo (f + 1) os (c :: q) (pos + 1) := by
  have e1 : sxRun sxBlank (32 :: c :: q) = 1 := by
    have : sxBlank 32 = true := by decide
    simp [sxRun, this, hb]
  have e2 : sxRun sxBlank (c :: q) = 0 := by simp [sxRun, hb]
  conv => lhs; unfold sxGo
  conv => rhs; unfold sxGo
  simp only [e1, e2, List.drop_succ_cons, List.drop_zero, Nat.add_zero]
theorem go_step {c : UInt8} {q : By} (hb : sxBlank c = false) (f : Nat) (os : List T) (pos : Nat) : sxGo (f + 1) os (c :: q) pos =
    if (sxJudge os (sxScan (c :: q))).1 == 0 then sxGo f (sxTake os ((sxScan (c :: q)).tree pos)) ((c :: q).drop (sxScan (c :: q)).size) (pos + (sxScan (c :: q)).size)
    else (sxZero, (sxJudge os (sxScan (c :: q))).1, pos + (sxJudge os (sxScan (c :: q))).2) := by
  have e2 : sxRun sxBlank (c :: q) = 0 := by simp [sxRun, hb]
  conv => lhs; unfold sxGo
  simp only [e2, List.drop_zero, Nat.add_zero]
theorem done_snoc {os : List T} (h : os ≠ []) (e : T) : sxDone (os ++ [e]) = sxDone os := by
  cases os with
  | nil => exact absurd rfl h
  | cons a b => rfl
/-- What has been added. -/
def T.adds (e : T) (l : List T) : T := .mk e.kind e.s e.n (e.kids ++ l) e.pos
theorem T.adds_nil (e : T) : e.adds [] = e := by cases e; simp [T.adds, T.kind, T.s, T.n, T.kids, T.pos]
theorem T.adds_cons (e t : T) (l : List T) : (e.add t).adds l = e.adds (t :: l) := by simp [T.adds, T.add, T.kind, T.s, T.n, T.kids, T.pos]
def GoesT (t : T) : Prop := ∀ (os : List T) (r : By) (pos f : Nat), os ≠ [] → sxDone os = false → Delim r → (printS t).length + r.length < f →
  (os.length + t.deep ≤ 13 → ∃ t' f' pos', t'.strip = t.strip ∧ r.length < f' ∧ sxGo f os (printS t ++ r) pos = sxGo f' (sxPut os t') r pos') ∧
  (13 < os.length + t.deep → os.length ≤ 13 → ∃ x, sxGo f os (printS t ++ r) pos = (sxZero, 14, x))
def GoesL (l : List T) : Prop := ∀ (b : Bool) (os : List T) (e : T) (r : By) (pos f : Nat), os ≠ [] → sxDone os = false → (∃ q, r = 41 :: q) → (printL b l).length + r.length < f →
  (os.length + 1 + T.deeps l ≤ 13 → ∃ l' f' pos', l'.map T.strip = l.map T.strip ∧ r.length < f' ∧ sxGo f (os ++ [e]) (printL b l ++ r) pos = sxGo f' (os ++ [e.adds l']) r pos') ∧
  (13 < os.length + 1 + T.deeps l → os.length + 1 ≤ 13 → ∃ x, sxGo f (os ++ [e]) (printL b l ++ r) pos = (sxZero, 14, x))
theorem goes_cons (t : T) (l : List T) (ht : t.fine = true) (h1 : GoesT t) (h2 : GoesL l) : GoesL (t :: l) := by
  intro b os e r pos f h0 hd hr hf
  obtain ⟨c, q, hp, hb⟩ := fine_first ht
  have hne : os ++ [e] ≠ [] := by simp
  have hdn : sxDone (os ++ [e]) = false := by rw [done_snoc h0]; exact hd
  have hr2 : Delim (printL false l ++ r) := by
    cases l with
    | nil =>
      obtain ⟨q', rfl⟩ := hr
      exact .inr ⟨41, q', by simp [printL], .inr rfl⟩
    | cons a l => exact .inr ⟨32, _, by simp [printL]; rfl, .inl rfl⟩
  have hstart : ∃ pos2, sxGo f (os ++ [e]) (printL b (t :: l) ++ r) pos = sxGo f (os ++ [e]) (printS t ++ (printL false l ++ r)) pos2 := by
    cases b
    · refine ⟨pos + 1, ?_⟩
      rw [printL]
      simp only [Bool.false_eq_true, if_false, List.append_assoc, List.cons_append, List.nil_append]
      rw [hp]
      obtain ⟨g, rfl⟩ : ∃ g, f = g + 1 := ⟨f - 1, by omega⟩
      simp only [List.cons_append]
      exact go_blanks hb g _ _
    · refine ⟨pos, ?_⟩
      rw [printL]
      simp only [if_true, List.nil_append, List.append_assoc]
  obtain ⟨pos2, hs⟩ := hstart
  have hlen : (printS t).length + (printL false l ++ r).length < f := by
    have : (printL b (t :: l)).length ≥ (printS t).length + (printL false l).length := by
      rw [printL]
      cases b <;> simp
    rw [List.length_append]
    omega
  obtain ⟨g1, g2⟩ := h1 (os ++ [e]) (printL false l ++ r) pos2 f hne hdn hr2 hlen
  have hol : (os ++ [e]).length = os.length + 1 := by simp
  rw [hol] at g1 g2
  rw [hs]
  constructor
  · intro hdp
    rw [T.deeps] at hdp
    have hA : os.length + 1 + t.deep ≤ 13 := by have := Nat.le_max_left t.deep (T.deeps l); omega
    have hB : os.length + 1 + T.deeps l ≤ 13 := by have := Nat.le_max_right t.deep (T.deeps l); omega
    clear hdp g2
    obtain ⟨t', f', pos', hst, hf', heq⟩ := g1 hA
    rw [List.length_append] at hf'
    obtain ⟨k1, _⟩ := h2 false os (e.add t') r pos' f' h0 hd hr hf'
    obtain ⟨l', f2, pos3, hsl, hf2, heq2⟩ := k1 hB
    refine ⟨t' :: l', f2, pos3, by simp [hst, hsl], hf2, ?_⟩
    rw [heq, sxPut_snoc, heq2, T.adds_cons]
  · intro hdp hle
    rw [T.deeps] at hdp
    by_cases ht13 : os.length + 1 + t.deep ≤ 13
    · have hB : 13 < os.length + 1 + T.deeps l := by
        rcases Nat.le_total t.deep (T.deeps l) with h | h
        · rw [Nat.max_eq_right h] at hdp; exact hdp
        · rw [Nat.max_eq_left h] at hdp; omega
      clear hdp g2
      obtain ⟨t', f', pos', hst, hf', heq⟩ := g1 ht13
      rw [List.length_append] at hf'
      obtain ⟨_, k2⟩ := h2 false os (e.add t') r pos' f' h0 hd hr hf'
      rw [heq, sxPut_snoc]
      exact k2 hB hle
    · exact g2 (by omega) hle
theorem goes_leaf {k : Int} {s : By} {n : Int} {l : List T} {p : Nat} (h : fineLeaf k s n l = true) : GoesT (.mk k s n l p) := by
  intro os r pos f h0 hd hr hf
  obtain ⟨c, q, hp, hb, hsc, hk1, hk2, hl⟩ := leaf_scan (p := p) h hr
  subst hl
  have hdp : (T.mk k s n [] p).deep = 0 := by
    rw [T.deep, if_neg (beq_eq_false_iff_ne.1 hk1)]
  obtain ⟨g, rfl⟩ : ∃ g, f = g + 1 := ⟨f - 1, by omega⟩
  rw [hdp]
  refine ⟨fun hle => ?_, fun h13 hle => by omega⟩
  rw [hp] at hsc hf ⊢
  rw [List.cons_append, go_step hb, ← List.cons_append, hsc]
  have hj : sxJudge os ⟨k, s, n, (c :: q).length, 0, 0⟩ = (0, 0) := by
    unfold sxJudge
    simp [hd, hk1, hk2]
  have hk1' := beq_eq_false_iff_ne.1 hk1
  have hk2' := beq_eq_false_iff_ne.1 hk2
  have ht : sxTake os ((Tk.mk k s n (c :: q).length 0 0).tree pos) = sxPut os (.mk k s n [] pos) := by
    unfold sxTake Tk.tree
    simp [T.kind, hk1', hk2']
  rw [hj]
  simp only [beq_self_eq_true, if_true]
  rw [ht, List.drop_left]
  refine ⟨.mk k s n [] pos, g, _, by simp [T.strip_mk], by simp at hf; omega, rfl⟩
theorem goes_open {l : List T} {p : Nat} (h : GoesL l) : GoesT (.mk 1 [] 0 l p) := by
  intro os r pos f h0 hd hr hf
  rw [open_print] at hf ⊢
  simp only [List.length_cons, List.length_append, List.length_nil] at hf
  obtain ⟨g, rfl⟩ : ∃ g, f = g + 1 := ⟨f - 1, by omega⟩
  have hb : sxBlank 40 = false := by decide
  have hsc : ∀ q, sxScan (40 :: q) = ⟨1, [], 0, 1, 0, 0⟩ := fun q => by unfold sxScan; rfl
  have hdp : (T.mk 1 [] 0 l p).deep = T.deeps l + 1 := by rw [T.deep, if_pos rfl]
  rw [hdp, List.cons_append, go_step hb, hsc, List.append_assoc]
  have hj : sxJudge os ⟨1, [], 0, 1, 0, 0⟩ = if 12 < os.length then (14, 0) else (0, 0) := by
    unfold sxJudge
    simp [hd]
  rw [hj]
  by_cases h12 : 12 < os.length
  · rw [if_pos h12]
    refine ⟨fun hle => by omega, fun _ _ => ⟨pos, by simp⟩⟩
  · rw [if_neg h12]
    simp only [beq_self_eq_true, if_true, List.drop_succ_cons, List.drop_zero]
    have ht : sxTake os ((Tk.mk 1 [] 0 1 0 0).tree pos) = os ++ [.mk 1 [] 0 [] pos] := by
      unfold sxTake Tk.tree
      simp [T.kind]
    rw [ht]
    obtain ⟨k1, k2⟩ := h true os (.mk 1 [] 0 [] pos) ([41] ++ r) (pos + 1) g h0 hd ⟨r, rfl⟩ (by simp; omega)
    refine ⟨fun hle => ?_, fun h13 hle => k2 (by omega) (by omega)⟩
    obtain ⟨l', f', pos', hst, hf', heq⟩ := k1 (by omega)
    simp only [List.length_append, List.length_cons, List.length_nil] at hf'
    obtain ⟨g', rfl⟩ : ∃ g', f' = g' + 1 := ⟨f' - 1, by omega⟩
    rw [heq]
    have hb2 : sxBlank 41 = false := by decide
    have hsc2 : sxScan (41 :: r) = ⟨-1, [], 0, 1, 0, 0⟩ := by unfold sxScan; rfl
    have hj2 : sxJudge (os ++ [(T.mk 1 [] 0 [] pos).adds l']) ⟨-1, [], 0, 1, 0, 0⟩ = (0, 0) := by
      unfold sxJudge
      simp [h0]
    rw [List.cons_append, List.nil_append, go_step hb2, hsc2, hj2]
    simp only [beq_self_eq_true, if_true, List.drop_succ_cons, List.drop_zero]
    have ht2 : sxTake (os ++ [(T.mk 1 [] 0 [] pos).adds l']) ((Tk.mk (-1) [] 0 1 0 0).tree pos') = sxPut os ((T.mk 1 [] 0 [] pos).adds l') := by
      unfold sxTake Tk.tree
      simp [T.kind]
    rw [ht2]
    refine ⟨(T.mk 1 [] 0 [] pos).adds l', g', _, ?_, by omega, rfl⟩
    simp only [T.adds, T.kind, T.s, T.n, T.kids, T.pos, List.nil_append]
    rw [T.strip_mk, T.strip_mk, hst]
mutual
theorem goes_tree : ∀ t : T, t.fine = true → GoesT t
  | .mk k s n l p, h => by
    have hl := goes_trees l
    rw [T.fine, Bool.or_eq_true] at h
    rcases h with h | h
    · simp only [Bool.and_eq_true, beq_iff_eq, List.isEmpty_iff] at h
      obtain ⟨⟨⟨rfl, rfl⟩, rfl⟩, h4⟩ := h
      exact goes_open (hl h4)
    · exact goes_leaf h
theorem goes_trees : ∀ l : List T, T.fines l = true → GoesL l
  | [], _ => by
    intro b os e r pos f h0 hd hr hf
    refine ⟨fun _ => ⟨[], f, pos, rfl, by omega, ?_⟩, fun h13 hle => by simp [T.deeps] at h13; omega⟩
    rw [T.adds_nil]
    simp [printL]
  | t :: l, h => by
    rw [T.fines, Bool.and_eq_true] at h
    exact goes_cons t l h.1 (goes_tree t h.1) (goes_trees l h.2)
end
/-- What is printed, read. -/
theorem read_print (t : T) (h : t.fine = true) : (600 < (printS t).length → sxRead (printS t) = (sxZero, 3, 0)) ∧
    ((printS t).length ≤ 600 → t.deep ≤ 12 → ∃ t', t'.strip = t.strip ∧ sxRead (printS t) = (t', 0, 0)) ∧
    ((printS t).length ≤ 600 → 12 < t.deep → ∃ x, sxRead (printS t) = (sxZero, 14, x)) := by
  have hg := goes_tree t h [sxZero] [] 0 ((printS t).length + 1) (by simp) rfl (.inl rfl) (by simp)
  rw [List.append_nil] at hg
  have h1 : ([sxZero] : List T).length = 1 := rfl
  rw [h1] at hg
  refine ⟨fun hl => by unfold sxRead; rw [if_pos hl], fun hl hd => ?_, fun hl hd => ?_⟩
  · obtain ⟨t', f', pos', hst, hf', heq⟩ := hg.1 (by omega)
    refine ⟨t', hst, ?_⟩
    unfold sxRead
    rw [if_neg (by omega), heq]
    obtain ⟨g, rfl⟩ : ∃ g, f' = g + 1 := ⟨f' - 1, by simp at hf'; omega⟩
    unfold sxGo
    simp [sxPut, sxZero, T.add, T.kids, sxWhole, sxRun]
  · obtain ⟨x, hx⟩ := hg.2 (by omega) (by omega)
    exact ⟨x, by unfold sxRead; rw [if_neg (by omega), hx]⟩
end Go.Proofs.YtojbahjebfcmgaaGreatDoor
