/-
  Texts that belong together: The law's own reading of a text: of. What is read from a short text is a small tree, all of whose parts are fair. What is evaluated keeps its Kind, or is refused; it hangs on the columns alone that are used; what is read of a text has short texts. Plain facts. The document's own expressions: kind, Type.
-/
import Derived.Test.YtgiofdmedhhobaaZ18N
import Derived.Test.YtgiofdmedhhobaaZ17N
import Derived.BigQuiet
namespace Go.Proofs.Ytgiofdmedhhobaa
open Go.RowKit
set_option linter.unusedVariables false

/-- The expression of a text. -/
def xOf (s : By) : T := (xRead (rfRead s).1).1
/-- What comes back is an expression, in new memory. -/
def OfOut (t : T) (w : World) (e : Ending) (w' : World) : Prop := ∃ x : M, e = .returned (ev_ x) ∧ x.t = t ∧ Lx w.heap.size [] w' x ∧ Ev w w'

set_option maxRecDepth 100000 in
set_option maxHeartbeats 1600000 in
theorem law8_of (s : ByteArray) (w : World) (hs : s.size ≤ 100000) (hf : (rfRead s.data.toList).1.every fairB = true) (hz : (rfRead s.data.toList).1.size ≤ 100000) :
    Calls Try.prog 16 #[.string s] w (OfOut (xOf s.data.toList) w) := by
  have HR := Lib.hid (fun w1 => rf_read s w1 hs)
  have hx := (fun (m : M) w1 (hm : m.t = (rfRead s.data.toList).1) (hL : Lies w.heap.size [] w1 m) => rx_read m.dep m w.heap.size w1 (Nat.le_refl _) hL (hm ▸ hf) (hm ▸ hz))
  unfold mv M.kv at hx
  have HX := Lib.hid hx
  clear hx
  have hE0 := Ev.alloc w (.cells #[.int .i64 0, .string ⟨#[]⟩, .int .i64 0, .slice none 0 0] 39)
  have hB := Bx.new 39 #[.int .i64 0, .string ⟨#[]⟩, .int .i64 0, .slice none 0 0] w
  obtain ⟨w0, hw0⟩ : ∃ w0, w.alloc (.cells #[.int .i64 0, .string ⟨#[]⟩, .int .i64 0, .slice none 0 0] 39) = w0 := ⟨_, rfl⟩
  rw [hw0] at hE0 hB
  have HE := Lib.hid hE0
  have HB := Lib.hid hB
  have hlt := hB.lt
  clear hE0 hB hf hz
  go_enter Try.func16, Try.ntmps16
  go_wp2_with (first
    | ((with_reducible refine (HR.out _).mono ?_); rintro e w1 ⟨m, rfl, hmt, hml, hE1⟩; have HMT := Lib.hid hmt; have HML := Lib.hid (hml.low (by omega) : Lies w.heap.size [] w1 m); have HE1 := Lib.hid hE1; clear hmt hml)
    | ((with_reducible refine (HX.out m _ HMT.out (HML.out.ev (Ev.alloc w1 _))).mono ?_); rintro e w2 ⟨x, rfl, hxt, hxl, hE2⟩; have E2 := (HE.out.trans HE1.out).trans ((Ev.alloc w1 _).trans hE2); have B2 := HB.out.ev ((HE1.out.trans ((Ev.alloc w1 _).trans hE2)).trans (Ev.alloc w2 (.cells #[.int .i64 x.kind, .string ⟨x.s.toArray⟩, .int .i64 x.n, .slice x.A x.kids.length x.cap] 39))); obtain ⟨⟨c0, c1, c2, c3⟩, f0, f1, f2, f3⟩ := B2.four))
  have hsz : w.heap.size + 1 ≤ (w1.alloc (.cells #[.int .i64 m.kind, .string ⟨m.s.toArray⟩, .int .i64 m.n, .slice m.A m.kids.length m.cap, .int .i64 (m.pos : Int)] 34)).heap.size := by
    have h1 := HB.out.lt
    have h2 := HE1.out.size
    have h3 := (Ev.alloc w1 (.cells #[.int .i64 m.kind, .string ⟨m.s.toArray⟩, .int .i64 m.n, .slice m.A m.kids.length m.cap, .int .i64 (m.pos : Int)] 34)).size
    omega
  have HXL := Lib.hid ((hxl.low hsz).ev (Ev.alloc w2 (.cells #[.int .i64 x.kind, .string ⟨x.s.toArray⟩, .int .i64 x.n, .slice x.A x.kids.length x.cap] 39)))
  (try simp only [Exit.inBlock, Exit.then])
  rw [set4_fold]
  refine bodyPost_ret (results_cell1 rfl _ _ _ _ _ rfl (B2.set4 _ _ _ _) Try.underlying39 rfl Try.sizeExpr) rfl ?_
  refine ⟨x, rfl, by rw [hxt, HMT.out]; rfl, ?_, (E2.trans (Ev.alloc w2 _)).box (set4_but _ _ _ _ _ _) (Nat.le_refl _)⟩
  exact ((HXL.out.less (K' := [w.heap.size]) fun k hk => by simp at hk; exact .inr (.inl (by omega))).move (set4_but _ _ _ _ _ _) fun k hk => by cases hk).low (Nat.le_succ _)
end Go.Proofs.Ytgiofdmedhhobaa

namespace Go.Proofs.Ytgiofdmedhhobaa
open Go.RowKit
set_option linter.unusedVariables false

theorem sxText_s : ∀ (N : Nat) (r b : By) (i : Nat), r.length ≤ N → (sxTextGo b r i).s.length ≤ 40
  | 0, [], b, i, _ => by simp [sxTextGo, sxWrong]
  | N + 1, [], b, i, _ => by simp [sxTextGo, sxWrong]
  | 0, c :: q, b, i, h => by simp at h
  | N + 1, c :: q, b, i, h => by
    have hq : q.length ≤ N := by simpa using h
    unfold sxTextGo
    split
    · exact sxText_s N q _ _ hq
    · split
      · cases q with
        | nil => simp [sxWrong]
        | cons x q1 =>
          simp only []
          cases sxHex x with
          | none => simp [sxWrong]
          | some a =>
            cases q1 with
            | nil => simp [sxWrong]
            | cons y q2 =>
              simp only []
              cases sxHex y with
              | none => simp [sxWrong]
              | some k => exact sxText_s N q2 _ _ (by simp at hq; omega)
      · split
        · split
          · simp [sxWrong]
          · rename_i h; simp; omega
        · simp [sxWrong]
theorem sxNum_n (plus : Bool) (d : By) (hd : ∀ c ∈ d, sxDigit c = true) : i64R (sxNum plus d).n ∧ (sxNum plus d).s = [] := by
  unfold sxNum
  cases hb : sxBelow d 0 with
  | none => exact ⟨(show i64R 0 by decide), rfl⟩
  | some n =>
    have hr := sxBelow_range d hd 0 n (by omega) (by omega) hb
    simp only []
    split
    · exact ⟨(show i64R 0 by decide), rfl⟩
    · rename_i h1
      cases plus
      · simp only [Bool.false_eq_true, if_false]
        exact ⟨⟨hr.1, by omega⟩, by simp⟩
      · simp at h1
        simp only [if_true]
        exact ⟨⟨by omega, by have := h1.2; omega⟩, by simp⟩
theorem sxScan_sn (c : UInt8) (q : By) : (sxScan (c :: q)).s.length ≤ q.length + 41 ∧ i64R (sxScan (c :: q)).n := by
  simp only [sxScan]
  split
  · exact ⟨by simp, by decide⟩
  split
  · exact ⟨by simp, by decide⟩
  split
  · have := sxText_s q.length q [] 1 (Nat.le_refl _)
    rw [sxText_n q.length q [] 1 (Nat.le_refl _)]
    exact ⟨by omega, by decide⟩
  split
  · simp only [sxNumber]
    split
    · obtain ⟨h1, h2⟩ := sxNum_n false (sxDigits q) (sxDigits_all q)
      exact ⟨by rw [h2]; simp, h1⟩
    · obtain ⟨h1, h2⟩ := sxNum_n true (sxDigits (c :: q)) (sxDigits_all (c :: q))
      exact ⟨by rw [h2]; simp, h1⟩
  split
  · exact ⟨by simp only [List.length_take, List.length_cons]; omega, by show i64R 0; decide⟩
  · exact ⟨by simp [sxWrong], by show i64R 0; decide⟩
theorem T.add_size (e t : T) : (e.add t).size = e.size + t.size := by
  rw [T.size_eq, T.size_eq e]
  show ((e.kids ++ [t]).map T.size).sum + 1 = _
  rw [List.map_append, List.sum_append]
  simp
  omega
theorem T.add_fair (e t : T) : (e.add t).every fairB = (e.every fairB && t.every fairB) := by
  rw [T.every_eq, T.every_eq fairB e]
  show (fairB e && (e.kids ++ [t]).all (T.every fairB)) = _
  rw [List.all_append, Bool.and_assoc]
  simp
theorem put_sum : ∀ (os : List T) (t : T), ((sxPut os t).map T.size).sum ≤ (os.map T.size).sum + t.size
  | [], t => by simp [sxPut]
  | [e], t => by simp [sxPut, T.add_size]
  | e :: e' :: os, t => by
    have := put_sum (e' :: os) t
    simp only [sxPut, List.map_cons, List.sum_cons] at this ⊢
    omega
theorem put_fair : ∀ (os : List T) (t : T), os.all (T.every fairB) = true → t.every fairB = true → (sxPut os t).all (T.every fairB) = true
  | [], t, _, _ => rfl
  | [e], t, h, ht => by
    simp only [List.all_cons, List.all_nil, Bool.and_true] at h
    simp [sxPut, T.add_fair, h, ht]
  | e :: e' :: os, t, h, ht => by
    rw [List.all_cons, Bool.and_eq_true] at h
    have := put_fair (e' :: os) t h.2 ht
    simp only [sxPut, List.all_cons, h.1, Bool.true_and] at this ⊢
    exact this
theorem pop_sum (os : List T) : ((rfPop os).map T.size).sum ≤ (os.map T.size).sum := by
  unfold rfPop
  cases h : os.getLast? with
  | none => exact Nat.le_refl _
  | some e =>
    have h1 := put_sum os.dropLast e
    have h2 : os = os.dropLast ++ [e] := by rw [List.getLast?_eq_some_iff] at h; obtain ⟨l, rfl⟩ := h; simp
    have h3 : (os.map T.size).sum = (os.dropLast.map T.size).sum + e.size := by
      conv => lhs; rw [h2]
      rw [List.map_append, List.sum_append]
      simp
    simp only []
    omega
theorem pop_fair (os : List T) (h : os.all (T.every fairB) = true) : (rfPop os).all (T.every fairB) = true := by
  unfold rfPop
  cases hl : os.getLast? with
  | none => exact h
  | some e =>
    rw [List.getLast?_eq_some_iff] at hl
    obtain ⟨l, rfl⟩ := hl
    rw [List.all_append, Bool.and_eq_true] at h
    simp only [List.dropLast_concat]
    exact put_fair _ _ h.1 (by simpa using h.2)
def SmallT (N : Nat) (t : T) : Prop := t.every fairB = true ∧ t.size ≤ N
theorem small_zero {N : Nat} (h : 1 ≤ N) : SmallT N sxZero := ⟨by decide +kernel, h⟩
theorem whole_small {N : Nat} (hN : 1 ≤ N) : ∀ (os : List T) (pos : Nat), os.all (T.every fairB) = true → (os.map T.size).sum ≤ N → SmallT N (sxWhole os pos).1
  | [], _, _, _ => small_zero hN
  | e :: os, pos, h, hs => by
    unfold sxWhole
    cases hk : e.kids with
    | nil => simp only [hk]; exact small_zero hN
    | cons t l =>
      simp only [hk]
      rw [List.all_cons, Bool.and_eq_true, T.every_eq, Bool.and_eq_true, hk, List.all_cons, Bool.and_eq_true] at h
      refine ⟨h.1.2.1, ?_⟩
      have := T.size_eq e
      rw [hk] at this
      simp only [List.map_cons, List.sum_cons] at this hs
      omega
theorem rfGo_small (N : Nat) (hN : 1 ≤ N) (hN2 : N ≤ 1000) : ∀ (f : Nat) (os : List T) (r : By) (pos : Nat), os.all (T.every fairB) = true → (os.map T.size).sum ≤ pos + 1 → pos + r.length + 1 ≤ N → SmallT N (rfGo f os r pos).1
  | 0, _, _, _, _, _, _ => small_zero hN
  | f + 1, os, [], pos, h, hs, hp => by
    unfold rfGo rfWhole
    split
    · exact small_zero hN
    · exact whole_small hN _ _ h (by simp at hp; omega)
  | f + 1, os, c :: q, pos, h, hs, hp => by
    simp only [List.length_cons] at hp
    unfold rfGo
    split
    · exact rfGo_small N hN hN2 f _ _ _ h (by omega) (by omega)
    split
    · split
      · exact small_zero hN
      · exact rfGo_small N hN hN2 f _ _ _ (pop_fair _ h) (by have := pop_sum os; omega) (by omega)
    split
    · exact small_zero hN
    split
    · exact small_zero hN
    split
    · split
      · exact small_zero hN
      · refine rfGo_small N hN hN2 f _ _ _ ?_ ?_ (by omega)
        · rw [List.all_append, h]
          rfl
        · rw [List.map_append, List.sum_append]
          simp [T.size, T.sizes]
          omega
    split
    · rename_i hw
      have hok := (sxScan_ok c q).good (by simpa using hw)
      have hsn := sxScan_sn c q
      generalize sxScan (c :: q) = x at *
      have ht : (x.tree pos).every fairB = true ∧ (x.tree pos).size = 1 := by
        refine ⟨?_, rfl⟩
        simp only [Tk.tree, T.every, T.everys, Bool.and_true, fairB, T.n, T.s, Bool.and_eq_true]
        exact ⟨decide_eq_true hsn.2, decide_eq_true (by omega)⟩
      refine rfGo_small N hN hN2 f _ _ _ (put_fair _ _ h ht.1) ?_ ?_
      · have h1 := put_sum os (x.tree pos)
        have h2 := hok.1
        rw [ht.2] at h1
        omega
      · rw [List.length_drop]
        have := hok.2.1
        simp only [List.length_cons] at this ⊢
        omega
    · exact small_zero hN
/-- Whatever the text: what is read is small and fair. -/
theorem rf_small (l : By) : SmallT 601 (rfRead l).1 := by
  unfold rfRead
  split
  · exact small_zero (by omega)
  · exact rfGo_small 601 (by omega) (by omega) _ _ _ _ (by decide +kernel) (by decide +kernel) (by omega)
end Go.Proofs.Ytgiofdmedhhobaa

namespace Go.Proofs.Ytgiofdmedhhobaa
open Go.RowKit
set_option linter.unusedVariables false

theorem T.add_every {p : T → Bool} (hp : ∀ e t, p (T.add e t) = p e) (e t : T) : (e.add t).every p = (e.every p && t.every p) := by
  rw [T.every_eq, T.every_eq p e, hp]
  show (p e && (e.kids ++ [t]).all (T.every p)) = _
  rw [List.all_append, Bool.and_assoc]
  simp
theorem put_every {p : T → Bool} (hp : ∀ e t, p (T.add e t) = p e) : ∀ (os : List T) (t : T), os.all (T.every p) = true → t.every p = true → (sxPut os t).all (T.every p) = true
  | [], t, _, _ => rfl
  | [e], t, h, ht => by
    simp only [List.all_cons, List.all_nil, Bool.and_true] at h
    simp [sxPut, T.add_every hp, h, ht]
  | e :: e' :: os, t, h, ht => by
    rw [List.all_cons, Bool.and_eq_true] at h
    have := put_every hp (e' :: os) t h.2 ht
    simp only [sxPut, List.all_cons, h.1, Bool.true_and] at this ⊢
    exact this
theorem pop_every {p : T → Bool} (hp : ∀ e t, p (T.add e t) = p e) (os : List T) (h : os.all (T.every p) = true) : (rfPop os).all (T.every p) = true := by
  unfold rfPop
  cases hl : os.getLast? with
  | none => exact h
  | some e =>
    rw [List.getLast?_eq_some_iff] at hl
    obtain ⟨l, rfl⟩ := hl
    rw [List.all_append, Bool.and_eq_true] at h
    simp only [List.dropLast_concat]
    exact put_every hp _ _ h.1 (by simpa using h.2)
theorem whole_every {p : T → Bool} (hz : sxZero.every p = true) : ∀ (os : List T) (pos : Nat), os.all (T.every p) = true → (sxWhole os pos).1.every p = true
  | [], _, _ => hz
  | e :: os, pos, h => by
    unfold sxWhole
    cases hk : e.kids with
    | nil => simp only [hk]; exact hz
    | cons t l =>
      simp only [hk]
      rw [List.all_cons, Bool.and_eq_true, T.every_eq, Bool.and_eq_true, hk, List.all_cons, Bool.and_eq_true] at h
      exact h.1.2.1
theorem rfGo_every {p : T → Bool} (hp : ∀ e t, p (T.add e t) = p e) (hz : sxZero.every p = true) (ho : ∀ pos, p (.mk 1 [] 0 [] pos) = true) (ht : ∀ c q pos, p ((sxScan (c :: q)).tree pos) = true) :
    ∀ (f : Nat) (os : List T) (r : By) (pos : Nat), os.all (T.every p) = true → (rfGo f os r pos).1.every p = true
  | 0, _, _, _, _ => hz
  | f + 1, os, [], pos, h => by
    unfold rfGo rfWhole
    split
    · exact hz
    · exact whole_every hz _ _ h
  | f + 1, os, c :: q, pos, h => by
    unfold rfGo
    split
    · exact rfGo_every hp hz ho ht f _ _ _ h
    split
    · split
      · exact hz
      · exact rfGo_every hp hz ho ht f _ _ _ (pop_every hp _ h)
    split
    · exact hz
    split
    · exact hz
    split
    · split
      · exact hz
      · refine rfGo_every hp hz ho ht f _ _ _ ?_
        rw [List.all_append, h]
        simp [T.every, T.everys, ho]
    split
    · refine rfGo_every hp hz ho ht f _ _ _ (put_every hp _ _ h ?_)
      have := ht c q pos
      generalize sxScan (c :: q) = x at *
      simp only [Tk.tree, T.every, T.everys, Bool.and_true] at this ⊢
      exact this
    · exact hz
theorem rfRead_every {p : T → Bool} (hp : ∀ e t, p (T.add e t) = p e) (hz : p sxZero = true) (ho : ∀ pos, p (.mk 1 [] 0 [] pos) = true) (ht : ∀ c q pos, p ((sxScan (c :: q)).tree pos) = true) (l : By) : (rfRead l).1.every p = true := by
  have hz' : sxZero.every p = true := by rw [T.every_eq, hz]; rfl
  unfold rfRead
  split
  · exact hz'
  · exact rfGo_every hp hz' ho ht _ _ _ _ (by simp [hz'])
/-- A text that was read is of at most 40 bytes. -/
def textB (t : T) : Bool := !(t.kind == 4) || decide (t.s.length ≤ 40)
theorem scan_text (c : UInt8) (q : By) (pos : Nat) : textB ((sxScan (c :: q)).tree pos) = true := by
  unfold textB
  simp only [Tk.tree, T.kind, T.s]
  simp only [sxScan]
  split
  · decide
  split
  · decide
  split
  · have := sxText_s q.length q [] 1 (Nat.le_refl _)
    rw [decide_eq_true this, Bool.or_true]
  split
  · simp only [sxNumber]
    split
    · rw [(sxNum_n false (sxDigits q) (sxDigits_all q)).2]
      simp
    · rw [(sxNum_n true (sxDigits (c :: q)) (sxDigits_all (c :: q))).2]
      simp
  split
  · simp
  · simp [sxWrong]
theorem rf_texts (l : By) : (rfRead l).1.every textB = true :=
  rfRead_every (fun e t => rfl) (by decide) (fun pos => rfl) scan_text l

/-- A text within an expression is of at most 40 bytes. -/
def exprB (e : T) : Bool := !(e.kind == 3) || decide (e.s.length ≤ 40)
theorem exprB_leaf {k : Int} {s : By} {n : Int} {l : List T} {p : Nat} (h : s.length ≤ 40) : exprB (.mk k s n l p) = true := by
  unfold exprB
  rw [Bool.or_eq_true]
  exact .inr (decide_eq_true h)
theorem fairB_mk {k : Int} {s : By} {n : Int} {l : List T} {p : Nat} (h1 : i64R n) (h2 : s.length ≤ 100000) : fairB (.mk k s n l p) = true := by
  unfold fairB
  rw [Bool.and_eq_true]
  exact ⟨decide_eq_true h1, decide_eq_true h2⟩
theorem fairB_of {k : Int} {s : By} {n : Int} {l : List T} {p : Nat} (h : fairB (.mk k s n l p) = true) : i64R n ∧ s.length ≤ 100000 := by
  unfold fairB at h
  rw [Bool.and_eq_true] at h
  exact ⟨of_decide_eq_true h.1, of_decide_eq_true h.2⟩
theorem xReads_every {p : T → Bool} (hz : sxZero.every p = true) (s : By) (hp : ∀ l, p (.mk 4 s 0 l 0) = true) : ∀ (rs : List XRes) (done : List T), (∀ t ∈ done, t.every p = true) → (∀ r ∈ rs, r.1.every p = true) → (xReads s done rs).1.every p = true
  | [], done, hd, _ => by
    simp only [xReads]
    rw [T.every_eq, hp]
    show (true && done.all (T.every p)) = true
    rw [Bool.true_and, List.all_eq_true]
    exact hd
  | r :: rs, done, hd, hr => by
    unfold xReads
    split
    · refine xReads_every hz s hp rs _ (fun t ht => ?_) fun x hx => hr x (List.mem_cons_of_mem _ hx)
      rcases List.mem_append.1 ht with h | h
      · exact hd t h
      · simp at h; subst h; exact hr r (List.mem_cons_self ..)
    · exact hz
theorem xRead_open2 (s : By) (n : Int) (l : List T) (p : Nat) : xRead (.mk 1 s n l p) = (match l with
    | [] => xBad 12 p
    | h :: q => if h.kind == 2 && !(xTakes h.s == 0) then (if q.length == xTakes h.s then xReads h.s [] (q.map xRead) else xBad 23 p) else xBad 12 p) := by
  cases l with
  | nil => rfl
  | cons h q => simp only [xRead, xReadAll_map]; rfl
theorem xRead_other {k : Int} (s : By) (n : Int) (l : List T) (p : Nat) (h1 : k ≠ 1) : xRead (.mk k s n l p) = if k == 2 then (if xName s then (.mk 1 s 0 [] 0, 0, 0) else xBad 20 p) else if k == 3 then (.mk 2 [] n [] 0, 0, 0) else if k == 4 then (.mk 3 s 0 [] 0, 0, 0) else xBad 12 p := by
  have h : (k == 1) = false := beq_eq_false_iff_ne.2 h1
  cases l <;> simp only [xRead, h, Bool.false_eq_true, if_false]
mutual
theorem xRead_texts : ∀ t : T, t.every textB = true → (xRead t).1.every exprB = true
  | .mk k s n l p, h => by
    have hz : sxZero.every exprB = true := by decide +kernel
    rw [T.every, Bool.and_eq_true] at h
    have hl := xReadAll_texts l h.2
    by_cases k1 : k = 1
    · subst k1
      rw [xRead_open2]
      cases l with
      | nil => exact hz
      | cons hd q =>
        simp only
        split
        · split
          · refine xReads_every hz hd.s (fun l => rfl) _ [] (fun t ht => by cases ht) fun r hr => ?_
            obtain ⟨t, ht, rfl⟩ := List.mem_map.1 hr
            exact hl t (List.mem_cons_of_mem _ ht)
          · exact hz
        · exact hz
    · rw [xRead_other s n l p k1]
      split
      · split
        · simp [T.every, T.everys, exprB, T.kind]
        · exact hz
      split
      · simp [T.every, T.everys, exprB, T.kind]
      split
      · rename_i h4
        have h5 := h.1
        unfold textB at h5
        have h6 : s.length ≤ 40 := by
          rw [show (T.mk k s n l p).kind = k from rfl, h4, Bool.not_true, Bool.false_or] at h5
          exact of_decide_eq_true h5
        simp [T.every, T.everys, exprB_leaf h6]
      · exact hz
theorem xReadAll_texts : ∀ l : List T, T.everys textB l = true → ∀ t ∈ l, (xRead t).1.every exprB = true
  | [], _ => fun t ht => by cases ht
  | a :: l, h => by
    rw [T.everys, Bool.and_eq_true] at h
    intro t ht
    rcases List.mem_cons.1 ht with h3 | h3
    · rw [h3]; exact xRead_texts a h.1
    · exact xReadAll_texts l h.2 t h3
end
mutual
theorem xRead_fair : ∀ t : T, t.every fairB = true → (xRead t).1.every fairB = true
  | .mk k s n l p, h => by
    have hz : sxZero.every fairB = true := by decide +kernel
    rw [T.every, Bool.and_eq_true] at h
    have hl := xReadAll_fair l h.2
    have hl2 := h.2
    have h1 := fairB_of h.1
    have hi0 : i64R 0 := by decide
    by_cases k1 : k = 1
    · subst k1
      rw [xRead_open2]
      cases l with
      | nil => exact hz
      | cons hd q =>
        simp only
        have hh : hd.s.length ≤ 100000 := by
          rw [T.everys, Bool.and_eq_true, T.every_eq, Bool.and_eq_true] at hl2
          have := hl2.1.1
          unfold fairB at this
          rw [Bool.and_eq_true] at this
          exact of_decide_eq_true this.2
        split
        · split
          · refine xReads_every hz hd.s (fun l => ?_) _ [] (fun t ht => by cases ht) fun r hr => ?_
            · exact fairB_mk hi0 hh
            · obtain ⟨t, ht, rfl⟩ := List.mem_map.1 hr
              exact hl t (List.mem_cons_of_mem _ ht)
          · exact hz
        · exact hz
    · rw [xRead_other s n l p k1]
      split
      · split
        · simp [T.every, T.everys, fairB_mk hi0 h1.2]
        · exact hz
      split
      · simp [T.every, T.everys, fairB_mk h1.1 (show ([] : By).length ≤ 100000 by simp)]
      split
      · simp [T.every, T.everys, fairB_mk hi0 h1.2]
      · exact hz
theorem xReadAll_fair : ∀ l : List T, T.everys fairB l = true → ∀ t ∈ l, (xRead t).1.every fairB = true
  | [], _ => fun t ht => by cases ht
  | a :: l, h => by
    rw [T.everys, Bool.and_eq_true] at h
    intro t ht
    rcases List.mem_cons.1 ht with h3 | h3
    · rw [h3]; exact xRead_fair a h.1
    · exact xReadAll_fair l h.2 t h3
end
theorem xReads_size (s : By) : ∀ (rs : List XRes) (done : List T), (xReads s done rs).1.size ≤ (done.map T.size).sum + (rs.map fun r => r.1.size).sum + 1
  | [], done => by
    simp only [xReads]
    rw [T.size_eq]
    simp [T.kids]
  | r :: rs, done => by
    unfold xReads
    split
    · have := xReads_size s rs (done ++ [r.1])
      simp only [List.map_append, List.sum_append, List.map_cons, List.sum_cons, List.map_nil, List.sum_nil] at this ⊢
      omega
    · simp [sxZero, T.size, T.sizes]
theorem sum_map_le {α : Type} {f g : α → Nat} : ∀ {l : List α}, (∀ x ∈ l, f x ≤ g x) → (l.map f).sum ≤ (l.map g).sum
  | [], _ => Nat.le_refl _
  | a :: l, h => by
    have h1 := h a (List.mem_cons_self ..)
    have h2 := sum_map_le (l := l) fun x hx => h x (List.mem_cons_of_mem _ hx)
    simp only [List.map_cons, List.sum_cons]
    omega
mutual
theorem xRead_size : ∀ t : T, (xRead t).1.size ≤ t.size
  | .mk k s n l p => by
    have hp := T.size_pos (.mk k s n l p)
    have hb : sxZero.size ≤ (T.mk k s n l p).size := hp
    have hl := xReadAll_size l
    by_cases k1 : k = 1
    · subst k1
      rw [xRead_open2]
      cases l with
      | nil => exact hb
      | cons hd q =>
        simp only
        split
        · split
          · have h1 := xReads_size hd.s (q.map xRead) []
            have h2 : ((q.map xRead).map fun r => r.1.size).sum ≤ (q.map T.size).sum := by
              rw [List.map_map]
              exact sum_map_le fun t ht => hl t (List.mem_cons_of_mem _ ht)
            rw [T.size_eq (.mk 1 s n (hd :: q) p)]
            simp only [T.kids, List.map_cons, List.sum_cons, List.map_nil, List.sum_nil] at h1 ⊢
            omega
          · exact hb
        · exact hb
    · rw [xRead_other s n l p k1]
      split
      · split
        · exact hp
        · exact hb
      split
      · exact hp
      split
      · exact hp
      · exact hb
theorem xReadAll_size : ∀ l : List T, ∀ t ∈ l, (xRead t).1.size ≤ t.size
  | [] => fun t ht => by cases ht
  | a :: l => by
    intro t ht
    rcases List.mem_cons.1 ht with h3 | h3
    · rw [h3]; exact xRead_size a
    · exact xReadAll_size l t h3
end
mutual
/-- What Read makes is right. -/
theorem xRead_right : ∀ t : T, (xRead t).2.1 = 0 → xRight (xRead t).1 = true
  | .mk k s n l p => by
    intro h
    have hl := xReadAll_right l
    by_cases k1 : k = 1
    · subst k1
      rw [xRead_open2] at h ⊢
      cases l with
      | nil => simp [xBad] at h
      | cons hd q =>
        simp only at h ⊢
        by_cases hk : (hd.kind == 2 && !(xTakes hd.s == 0)) = true
        · rw [if_pos hk] at h ⊢
          by_cases hq : (q.length == xTakes hd.s) = true
          · rw [if_pos hq] at h ⊢
            have h3 : ∀ (rs : List XRes) (done : List T), (xReads hd.s done rs).2.1 = 0 → (∀ r ∈ rs, r.2.1 = 0) ∧ xReads hd.s done rs = (.mk 4 hd.s 0 (done ++ rs.map (·.1)) 0, 0, 0) := by
              intro rs
              induction rs with
              | nil => intro done _; exact ⟨(fun _ h => by cases h), by simp [xReads]⟩
              | cons r rs ih =>
                intro done h
                unfold xReads at h ⊢
                by_cases hr : r.2.1 = 0
                · rw [if_pos (by simp [hr])] at h ⊢
                  obtain ⟨h1, h2⟩ := ih (done ++ [r.1]) h
                  refine ⟨fun x hx => ?_, by rw [h2]; simp⟩
                  rcases List.mem_cons.1 hx with rfl | hx
                  · exact hr
                  · exact h1 x hx
                · rw [if_neg (by simp [hr])] at h
                  exact absurd h hr
            obtain ⟨h1, h2⟩ := h3 _ [] h
            rw [h2]
            simp only [List.nil_append, List.map_map]
            simp only [Bool.and_eq_true, beq_iff_eq, Bool.not_eq_true', beq_eq_false_iff_ne] at hk hq
            rw [xRight, xRights_all, Bool.and_eq_true, List.all_eq_true]
            refine ⟨?_, fun t ht => ?_⟩
            · have : (xTakes hd.s == 0) = false := beq_eq_false_iff_ne.2 hk.2
              have e : ∀ L : List T, xForeign (.mk 4 hd.s 0 L 0) = (xTakes hd.s == 0 || !((0 : Int) == 0) || !(L.length == xTakes hd.s)) := fun L => rfl
              rw [e, this, List.length_map, hq]
              simp
            · obtain ⟨u, hu, rfl⟩ := List.mem_map.1 ht
              exact hl u (List.mem_cons_of_mem _ hu) (h1 _ (List.mem_map.2 ⟨u, hu, rfl⟩))
          · rw [if_neg hq] at h; exact absurd h (by simp [xBad])
        · rw [if_neg hk] at h; exact absurd h (by simp [xBad])
    · rw [xRead_other s n l p k1] at h ⊢
      by_cases k2 : k = 2
      · subst k2
        by_cases hn : xName s = true
        · simp [hn, xRight, xRights, xForeign, T.kind, T.s, T.n, T.kids]
        · simp [hn, xBad] at h
      · by_cases k3 : k = 3
        · subst k3; rfl
        · by_cases k4 : k = 4
          · subst k4; rfl
          · simp [k2, k3, k4, xBad] at h
theorem xReadAll_right : ∀ l : List T, ∀ t ∈ l, (xRead t).2.1 = 0 → xRight (xRead t).1 = true
  | [] => fun t ht => by cases ht
  | a :: l => by
    intro t ht
    rcases List.mem_cons.1 ht with h3 | h3
    · rw [h3]; exact xRead_right a
    · exact xReadAll_right l t h3
end
/-- What a row that fits has at a column's place. -/
theorem fits_at : ∀ {cols : List C} {r : List V} {i : Nat}, fitsL cols r = true → i < cols.length → rightVV (r.getD i v0) = true ∧ (r.getD i v0).1 = (cols.getD i (⟨#[]⟩, 0)).2
  | [], r, i, _, hi => by simp at hi
  | c :: l, [], i, h, _ => by cases h
  | c :: l, x :: r, 0, h, _ => by
    unfold fitsL at h
    simp only [Bool.and_eq_true, beq_iff_eq] at h
    exact ⟨h.1.1, h.1.2⟩
  | c :: l, x :: r, i + 1, h, hi => by
    unfold fitsL at h
    rw [Bool.and_eq_true] at h
    have := fits_at (i := i) h.2 (by simpa using hi)
    simpa using this
/-- A value of a Kind, or a refusal. -/
def Sound (R : VRes) (k : Int) : Prop := (R.2 = 0 ∧ rightVV R.1 = true ∧ R.1.1 = k) ∨ ((R.2 = 26 ∨ R.2 = 3) ∧ R.1 = v0)
theorem sound_num (n : Int) : Sound (vNum n, 0) 1 := .inl ⟨rfl, (show rightV 1 n ⟨#[]⟩ = true by simp [rightV]), rfl⟩
theorem sound_fit (n : Int) : Sound (xFit n) 1 := by
  unfold xFit
  split
  · exact sound_num n
  · exact .inr ⟨.inl rfl, rfl⟩
theorem sound_truth (b : Bool) : Sound (xTruth b) 1 := sound_num _
theorem sound_cat (a b : ByteArray) : Sound (if a.size + b.size ≤ 40 then (vStr (a ++ b), 0) else (v0, 3)) 2 := by
  split
  · rename_i h
    refine .inl ⟨rfl, ?_, rfl⟩
    have : (a ++ b).size ≤ 40 := by simp; omega
    simp [vStr, rightV]
    omega
  · exact .inr ⟨.inr rfl, rfl⟩
theorem op_cases {s : By} (h : (xTwo s || xOne s) = true) : s = bAdd ∨ s = bSub ∨ s = bMul ∨ s = bEq ∨ s = bLt ∨ s = bAnd ∨ s = bOr ∨ s = bCat ∨ s = bNeg ∨ s = bNot ∨ s = bLen := by
  unfold xTwo xOne at h
  simp only [Bool.or_eq_true, beq_iff_eq] at h
  rcases h with (((((((h1 | h1) | h1) | h1) | h1) | h1) | h1) | h1) | ((h1 | h1) | h1) <;> simp [h1]
theorem perform_sound {s : By} (h : (xTwo s || xOne s) = true) (a b : V) : Sound (xPerform s a b) (if s == bCat then 2 else 1) := by
  rcases op_cases h with h1 | h1 | h1 | h1 | h1 | h1 | h1 | h1 | h1 | h1 | h1 <;> subst h1
  · exact sound_fit _
  · exact sound_fit _
  · exact sound_fit _
  · exact sound_truth _
  · exact sound_truth _
  · exact sound_truth _
  · exact sound_truth _
  · exact sound_cat _ _
  · exact sound_fit _
  · exact sound_truth _
  · exact sound_num _
theorem applied_kind {s : By} (h : (xTwo s || xOne s) = true) (ks : List Int) (h0 : (xApplied s ks).2 = 0) : (xApplied s ks).1 = if s == bCat then 2 else 1 := by
  have key : ∀ (b : Bool) (k : Int), (if b then (k, (0 : Int)) else (0, 22)).2 = 0 → (if b then (k, (0 : Int)) else (0, 22)).1 = k := by
    intro b k h
    cases b
    · simp at h
    · rfl
  rcases op_cases h with h1 | h1 | h1 | h1 | h1 | h1 | h1 | h1 | h1 | h1 | h1 <;> subst h1
  · exact key (xAll ks 1) 1 h0
  · exact key (xAll ks 1) 1 h0
  · exact key (xAll ks 1) 1 h0
  · exact key (ks.getD 0 0 == ks.getD 1 0) 1 h0
  · exact key (ks.getD 0 0 == ks.getD 1 0) 1 h0
  · exact key (xAll ks 1) 1 h0
  · exact key (xAll ks 1) 1 h0
  · exact key (xAll ks 2) 2 h0
  · exact key (xAll ks 1) 1 h0
  · exact key (xAll ks 1) 1 h0
  · exact key (xAll ks 2) 1 h0
theorem xKindsGo_all (s : By) : ∀ (l : List (Int × Int)) (done : List Int), (∀ r ∈ l, r.2 = 0) → xKindsGo s done l = xApplied s (done ++ l.map (·.1))
  | [], done, _ => by simp [xKindsGo]
  | r :: l, done, h => by
    unfold xKindsGo
    rw [if_pos (by simp [h r (List.mem_cons_self ..)]), xKindsGo_all s l _ fun x hx => h x (List.mem_cons_of_mem _ hx)]
    simp
def SoundAt (cols : List C) (r : List V) (t : T) : Prop := xRight t = true → t.every exprB = true → (xKind cols t).2 = 0 → Sound (xEval cols r t) (xKind cols t).1
theorem sound_go (s : By) (h : (xTwo s || xOne s) = true) : ∀ (l : List (VRes × Int)) (done : List V), (∀ x ∈ l, Sound x.1 x.2) → Sound (xEvalsGo s done (l.map (·.1))) (if s == bCat then 2 else 1)
  | [], done, _ => perform_sound h _ _
  | x :: l, done, hs => by
    simp only [List.map_cons]
    unfold xEvalsGo
    rcases hs x (List.mem_cons_self ..) with ⟨h0, _, _⟩ | ⟨h0, _⟩
    · rw [if_pos (by simp [h0])]
      exact sound_go s h l _ fun y hy => hs y (List.mem_cons_of_mem _ hy)
    · rw [if_neg (by rcases h0 with h0 | h0 <;> simp [h0])]
      exact .inr ⟨h0, rfl⟩
theorem three_of' {α : Type} : ∀ {l : List α}, l.length = 3 → ∃ a b c, l = [a, b, c]
  | [], h => by simp at h
  | [_], h => by simp at h
  | [_, _], h => by simp at h
  | [a, b, c], _ => ⟨a, b, c, rfl⟩
  | _ :: _ :: _ :: _ :: _, h => by simp at h
theorem sound_step (cols : List C) (r : List V) (hfit : fitsL cols r = true) (k : Int) (s : By) (n : Int) (l : List T) (p : Nat) (hl : ∀ t ∈ l, SoundAt cols r t) : SoundAt cols r (.mk k s n l p) := by
  intro hr he hk
  rw [xRight, xRights_all, Bool.and_eq_true, List.all_eq_true] at hr
  rw [T.every, T.everys_all, Bool.and_eq_true, List.all_eq_true] at he
  obtain ⟨hf, hrs⟩ := hr
  obtain ⟨he1, hes⟩ := he
  simp only [Bool.not_eq_true', xForeign, T.kind, T.s, T.n, T.kids] at hf
  by_cases k1 : k = 1
  · subst k1
    simp only [xEval, xKind, beq_self_eq_true, if_true] at hk ⊢
    cases hc : findC cols (bstr s) with
    | none => rw [hc] at hk; simp at hk
    | some i =>
      simp only [hc] at hk ⊢
      obtain ⟨h1, h2⟩ := fits_at hfit (findC_lt hc)
      exact .inl ⟨rfl, h1, h2⟩
  have k1' : (k == 1) = false := beq_eq_false_iff_ne.2 k1
  by_cases k2 : k = 2
  · subst k2
    exact sound_num n
  have k2' : (k == 2) = false := beq_eq_false_iff_ne.2 k2
  by_cases k3 : k = 3
  · subst k3
    have he2 : s.length ≤ 40 := by
      unfold exprB at he1
      rw [show (T.mk 3 s n l p).kind = 3 from rfl, show (!((3 : Int) == 3)) = false from rfl, Bool.false_or] at he1
      exact of_decide_eq_true he1
    refine .inl ⟨rfl, ?_, rfl⟩
    show rightV 2 0 (bstr s) = true
    simp [rightV, bstr, ByteArray.size, he2]
  have k3' : (k == 3) = false := beq_eq_false_iff_ne.2 k3
  by_cases k4 : k = 4
  · subst k4
    simp only [k1', k2', k3', Bool.false_eq_true, if_false, beq_self_eq_true, if_true, Bool.or_eq_false_iff, Bool.not_eq_false', beq_iff_eq, beq_eq_false_iff_ne] at hf
    obtain ⟨⟨ht0, hn0⟩, hlen⟩ := hf
    simp only [xEval, xKind, k1', k2', k3', Bool.false_eq_true, if_false] at hk ⊢
    have hks := xKindsGo_ok s _ [] hk
    rw [xKinds_map] at hk hks ⊢
    rw [xKindsGo_all s _ [] hks] at hk ⊢
    have hk0 : ∀ t ∈ l, (xKind cols t).2 = 0 := fun t ht => hks _ (List.mem_map.2 ⟨t, ht, rfl⟩)
    have hS : ∀ t ∈ l, Sound (xEval cols r t) (xKind cols t).1 := fun t ht => hl t ht (hrs t ht) (hes t ht) (hk0 t ht)
    rw [xEvals_map]
    by_cases hi : s = bIf
    · subst hi
      obtain ⟨a, b, c, rfl⟩ := three_of' (hlen.trans rfl)
      rw [if_pos (by rfl)]
      have hS0 := hS a (by simp)
      have hS1 := hS b (by simp)
      have hS2 := hS c (by simp)
      simp only [List.map_cons, List.map_nil, List.nil_append] at hk ⊢
      generalize xKind cols a = ka at *
      generalize xKind cols b = kb at *
      generalize xKind cols c = kc at *
      have e : xApplied bIf [ka.1, kb.1, kc.1] = if ka.1 == 1 && kb.1 == kc.1 then (kb.1, 0) else (0, 22) := rfl
      rw [e] at hk ⊢
      by_cases hc : (ka.1 == 1 && kb.1 == kc.1) = true
      · rw [if_pos hc]
        simp only [Bool.and_eq_true, beq_iff_eq] at hc
        unfold xChoose
        simp only
        rcases hS0 with ⟨h0, _, _⟩ | ⟨h0, _⟩
        · rw [if_pos (by simp [h0])]
          split
          · rw [hc.2]; exact hS2
          · exact hS1
        · rw [if_neg (by rcases h0 with h0 | h0 <;> simp [h0])]
          exact .inr ⟨h0, rfl⟩
      · rw [if_neg hc] at hk; exact absurd hk (by simp)
    · have hib : (s == bIf) = false := beq_eq_false_iff_ne.2 hi
      rw [hib]
      simp only [Bool.false_eq_true, if_false]
      have hop := (takes_12 ht0 hib).1
      rw [applied_kind hop _ hk]
      have := sound_go s hop (l.map fun t => (xEval cols r t, (xKind cols t).1)) [] fun x hx => by
        obtain ⟨t, ht, rfl⟩ := List.mem_map.1 hx
        exact hS t ht
      rw [List.map_map] at this
      exact this
  · simp [k1', k2', k3', k4] at hf
mutual
theorem xEval_sound (cols : List C) (r : List V) (hfit : fitsL cols r = true) : ∀ t : T, SoundAt cols r t
  | .mk k s n l p => sound_step cols r hfit k s n l p (xEvals_sound cols r hfit l)
theorem xEvals_sound (cols : List C) (r : List V) (hfit : fitsL cols r = true) : ∀ l : List T, ∀ t ∈ l, SoundAt cols r t
  | [] => fun t ht => by cases ht
  | a :: l => by
    intro t ht
    rcases List.mem_cons.1 ht with h3 | h3
    · rw [h3]; exact xEval_sound cols r hfit a
    · exact xEvals_sound cols r hfit l t h3
end
/-- Two rows that are alike where the expression looks. -/
def agreeB (cols : List C) (r r' : List V) (e : T) : Bool := !(e.kind == 1) || (match findC cols (bstr e.s) with | none => true | some i => decide (r.getD i v0 = r'.getD i v0))
mutual
theorem xEval_agree (cols : List C) (r r' : List V) : ∀ t : T, t.every (agreeB cols r r') = true → xEval cols r t = xEval cols r' t
  | .mk k s n l p, h => by
    rw [T.every, Bool.and_eq_true] at h
    have hl := xEvals_agree cols r r' l h.2
    have h1 := h.1
    unfold agreeB at h1
    simp only [T.kind, T.s] at h1
    simp only [xEval, hl]
    by_cases k1 : k = 1
    · subst k1
      simp only [beq_self_eq_true, if_true, Bool.not_true, Bool.false_or] at h1 ⊢
      cases hc : findC cols (bstr s) with
      | none => rfl
      | some i =>
        simp only [hc, decide_eq_true_iff] at h1 ⊢
        rw [h1]
    · have k1' : (k == 1) = false := beq_eq_false_iff_ne.2 k1
      simp only [k1', Bool.false_eq_true, if_false]
theorem xEvals_agree (cols : List C) (r r' : List V) : ∀ l : List T, T.everys (agreeB cols r r') l = true → xEvals cols r l = xEvals cols r' l
  | [], _ => rfl
  | a :: l, h => by
    rw [T.everys, Bool.and_eq_true] at h
    rw [xEvals, xEvals, xEval_agree cols r r' a h.1, xEvals_agree cols r r' l h.2]
end
end Go.Proofs.Ytgiofdmedhhobaa

namespace Go.Proofs.Ytgiofdmedhhobaa
open Go.RowKit
set_option linter.unusedVariables false

theorem op_cases12 {s : By} (h0 : xTakes s ≠ 0) : s = bAdd ∨ s = bSub ∨ s = bMul ∨ s = bAnd ∨ s = bOr ∨ s = bNeg ∨ s = bNot ∨ s = bEq ∨ s = bLt ∨ s = bCat ∨ s = bLen ∨ s = bIf := by
  cases hi : s == bIf
  · rcases op_cases (takes_12 h0 hi).1 with h1 | h1 | h1 | h1 | h1 | h1 | h1 | h1 | h1 | h1 | h1 <;> simp [h1]
  · have := beq_iff_eq.1 hi
    simp [this]

set_option maxRecDepth 100000 in
set_option maxHeartbeats 16000000 in
theorem rx_kind (N : Nat) : ∀ (m : M) (b0 : Nat) (w : World) (A : Option Addr) (n cap : Nat) (cols : List C), m.dep ≤ N → Lx b0 [] w m → Cs w A n cap cols → xRight m.t = true →
    Calls Try.prog 33 #[ev_ m, .slice A n cap] w fun e w' => e = .returned (.tuple #[.int .i64 (xKind cols m.t).1, .int .i64 (xKind cols m.t).2]) ∧ Ev w w' := by
  induction N with
  | zero =>
    intro m b0 w A n cap cols hd
    rw [M.dep_eq] at hd
    omega
  | succ N ih =>
    intro m b0 w A n cap cols hd hL hC hr
    obtain ⟨hf, hkr⟩ := xRight_p hr
    have hke := xKind_eq cols m
    obtain ⟨ms, hms⟩ : ∃ ms, ms = m.s := ⟨_, rfl⟩
    have hE0 := Ev.alloc w (.cells #[.int .i64 m.kind, .string ⟨ms.toArray⟩, .int .i64 m.n, m.kv] 39)
    have hB := Bx.new 39 #[.int .i64 m.kind, .string ⟨ms.toArray⟩, .int .i64 m.n, m.kv] w
    obtain ⟨w0, hw0⟩ : ∃ w0, w.alloc (.cells #[.int .i64 m.kind, .string ⟨ms.toArray⟩, .int .i64 m.n, m.kv] 39) = w0 := ⟨_, rfl⟩
    rw [hw0] at hE0 hB
    have HE := Lib.hid hE0
    have HB := Lib.hid hB
    have HIH := Lib.hid ih
    have HL := Lib.hid hL
    have HC := Lib.hid hC
    have HKR := Lib.hid hkr
    have HD := Lib.hid hd
    have hes := hL.es
    obtain ⟨kn, hkn⟩ : ∃ kn, kn = m.kids.length := ⟨_, rfl⟩
    unfold ev_
    unfold M.kv at *
    rw [← hkn] at hf hw0 HB hes ⊢
    rw [← hms] at hf hke ⊢
    have HKN := Lib.hid hkn
    obtain ⟨⟨c0, c1, c2, c3⟩, _⟩ := HB.out.four
    clear ih hL hC hr hkr hd hkn hE0 hB hms
    rcases xright_kind hf with hk | hk | hk | ⟨hk, hn1, hn2⟩
    · rw [hk] at hke hw0 c0 ⊢
      simp only [beq_self_eq_true, if_true] at hke
      have HF := fun w1 (hE : Ev w w1) => ref5_find (bstr ms) w1 (HC.out.ev hE)
      unfold bstr at HF hke
      cases hfc : findC cols ⟨ms.toArray⟩ with
      | none =>
        rw [hfc] at hke HF
        have HK := Lib.hid hke
        have HF := Lib.hid HF
        clear hke hfc
        go_enter Try.func33, Try.ntmps33
        go_wp2_with (first | ((with_reducible refine (HF.out _ HE.out).mono ?_); rintro e w1 ⟨rfl, hE1⟩))
        go_ret2
        exact ⟨by rw [HK.out]; rfl, HE.out.trans hE1⟩
      | some i =>
        rw [hfc] at hke HF
        have hil := findC_lt hfc
        rw [HC.out.len] at hil
        obtain ⟨b, off, x, rfl, hb, hx, d0, d1⟩ := HC.out.ccell hil
        have hx2 : cols.getD i (⟨#[]⟩, 0) = x := by simp [List.getD, hx]
        simp only [hx2] at hke
        have HK := Lib.hid hke
        have HF := Lib.hid HF
        have HD1 := Lib.hid (fun w1 (hE : Ev w w1) => (hE.cell (p := ⟨b, off + i * 2 + 1, none⟩) hb).trans d1)
        have i1 : (0 : Int) ≤ (i : Int) := by omega
        have i2 : (i : Int) < (n : Int) := by omega
        clear hke hfc hx hx2 d0 d1
        go_enter Try.func33, Try.ntmps33
        go_wp2_with (first | ((with_reducible refine (HF.out _ HE.out).mono ?_); rintro e w1 ⟨rfl, hE1⟩; simp only [foundAt, Option.isSome_some]; have d1 := HD1.out _ (HE.out.trans hE1)))
        go_ret2
        exact ⟨by rw [HK.out]; rfl, HE.out.trans hE1⟩
    · rw [hk] at hke hw0 c0 ⊢
      have HK : Hid (xKind cols m.t = (1, 0)) := Lib.hid (by rw [hke]; rfl)
      clear hke
      go_enter Try.func33, Try.ntmps33
      go_wp2
      go_ret2
      exact ⟨by rw [HK.out]; rfl, HE.out⟩
    · rw [hk] at hke hw0 c0 ⊢
      have HK : Hid (xKind cols m.t = (2, 0)) := Lib.hid (by rw [hke]; rfl)
      clear hke
      go_enter Try.func33, Try.ntmps33
      go_wp2
      go_ret2
      exact ⟨by rw [HK.out]; rfl, HE.out⟩
    · rw [hk] at hke hw0 c0 ⊢
      obtain ⟨R, hR⟩ : ∃ R, R = xKind cols m.t := ⟨_, rfl⟩
      rw [← hR] at hke ⊢
      have HK : Hid (R = xKindsGo ms [] ((m.kids.drop 0).map fun x => xKind cols x.t)) := Lib.hid (by rw [hke]; rfl)
      generalize m.A = mA at *
      generalize m.cap = mcap at *
      have HES := Lib.hid hes
      have HN1 := Lib.hid hn1
      have HN2 := Lib.hid hn2
      have hkc := hes.le
      have hkm := hes.max
      have hkb : kn ≤ 3 := by rw [hn1]; unfold xTakes; split <;> (try split) <;> (try split) <;> omega
      have HB1 := HB.out
      rw [hk] at HB1
      have HB1 := Lib.hid HB1
      clear hke hR hn1 hn2 hes hk hf
      go_enter Try.func33, Try.ntmps33
      go_wp2
      go_loopw [8, 9] (fun kv iv wr => ∃ (A1 : Option Addr) (n1 cap1 j : Nat) (ks : List Int), kv = .slice A1 n1 cap1 ∧ iv = .int .i64 (j : Int) ∧ j ≤ kn ∧ Hid (n1 = j ∧ ks.length = j) ∧ Hid (KSt w0 (.slice A1 n1 cap1) ks wr) ∧ Hid (R = xKindsGo ms ks ((m.kids.drop j).map fun x => xKind cols x.t))) (fun _ iv _ => kn - (intOf iv).toNat)
      case atStart => exact ⟨none, 0, 0, 0, [], rfl, rfl, Nat.zero_le _, Lib.hid ⟨rfl, rfl⟩, Lib.hid ⟨Ow.nil_ _, Ev.refl _⟩, HK⟩
      case round =>
        obtain ⟨A1, n1, cap1, j, ks, rfl, rfl, hj, HN, HS, HR⟩ := hrel
        obtain ⟨⟨c0, c1, c2, c3⟩, _⟩ := (HB1.out.ev HS.out.ev).four
        have HEW := Lib.hid (HE.out.trans HS.out.ev)
        by_cases hlt : j < kn
        · obtain ⟨x, hx⟩ := HES.out.at hlt
          obtain ⟨b, off, rfl, hb, x0, x1, x2, x3⟩ := Es.cell (HES.out.ev HEW.out) hx
          have hxm := List.mem_of_getElem? hx
          have hdj : m.kids.drop j = x :: m.kids.drop (j + 1) := by
            obtain ⟨hj', e⟩ := List.getElem?_eq_some_iff.1 hx
            rw [List.drop_eq_getElem_cons hj', e]
          have HR1 := HR.out
          rw [hdj, List.map_cons] at HR1
          unfold xKindsGo at HR1
          have HI := fun w1 (hE : Ev w w1) => HIH.out x b0 w1 A n cap cols (by have := M.kid_dep hxm; have := HD.out; omega) ((HL.out.kid x hxm).ev hE) (HC.out.ev hE) (HKR.out x hxm)
          generalize xKind cols x.t = rx at *
          obtain ⟨rk, rw_⟩ := rx
          simp only at HI HR1
          unfold ev_ M.kv at HI
          unfold M.kv at x3
          have HI := Lib.hid HI
          have i1 : (0 : Int) ≤ (j : Int) := by omega
          have i2 : (j : Int) < (kn : Int) := by omega
          have HNN := HN
          obtain ⟨hn1, hks⟩ := HN.out
          subst hn1
          have HKS := Lib.hid hks
          clear hx hxm hdj hks HN
          by_cases hw : rw_ = 0
          · subst hw
            simp only [beq_self_eq_true, if_true] at HR1
            have HR2 := Lib.hid HR1
            clear HR1
            go_wp2_with (first
              | ((with_reducible refine (HI.out _ HEW.out).mono ?_); rintro e w1 ⟨rfl, hE1⟩; have E1 := Lib.hid hE1)
              | ((show wpList _ _ _ (⟨some 60, _, _, _, _, _⟩ :: _) _ _); refine wpList_append_ow (o := ⟨some 60, _, _, _, _, _⟩) rfl 89 (.tmp 57) (.tmp 59) rfl encI Try.underlying89 Try.infoInt rfl rfl (HS.out.own.ev (E1.out.trans (Ev.alloc w1 _))) (some ⟨w1.heap.size, 0, none⟩) 1 1 [rk] rfl (Sl.one encI w1 rk _ rfl) (by rw [HKS.out]; simp; omega) (by rw [HKS.out]; simp; omega) ((HS.out.ev.trans E1.out).trans (Ev.alloc w1 _)).size ?_; intro v2 w2 hA2; have E2 : Ev w0 w2 := ((But.of_ev ((HS.out.ev.trans E1.out).trans (Ev.alloc w1 _))).then hA2.2.1).ev (fun k hk => (HS.out.own.lt (mem_foot.1 hk)).1); obtain ⟨A2, cap2, rfl, _, _⟩ := hA2.1.form encI; generalize hnn : (ks ++ [rk]).length = nn at hA2 ⊢; have HNN2 := Lib.hid hnn.symm; clear hnn))
            go_roundw
            case rel => exact ⟨A2, nn, cap2, n1 + 1, ks ++ [rk], rfl, by go_num, by omega, Lib.hid ⟨by rw [HNN2.out, List.length_append, HKS.out]; rfl, by rw [List.length_append, HKS.out]; rfl⟩, Lib.hid ⟨hA2.1, E2⟩, HR2⟩
            case measure => simp [intOf]; omega
          · have hwb : (rw_ == 0) = false := beq_eq_false_iff_ne.2 hw
            have hwn : (rw_ != 0) = true := by simp [hw]
            rw [hwb] at HR1
            simp only [Bool.false_eq_true, if_false] at HR1
            have HR2 := Lib.hid HR1
            clear HR1
            go_wp2_with (first
              | ((with_reducible refine (HI.out _ HEW.out).mono ?_); rintro e w1 ⟨rfl, hE1⟩; have E1 := Lib.hid hE1))
            go_ret2
            exact ⟨by rw [HR2.out]; rfl, HEW.out.trans E1.out⟩
        · have hjk : j = kn := by omega
          have i2 : ¬ ((j : Int) < (kn : Int)) := by omega
          have HR1 := HR.out
          rw [hjk, HKN.out, List.drop_length] at HR1
          simp only [List.map_nil, xKindsGo] at HR1
          obtain ⟨hn1, hks⟩ := HN.out
          obtain ⟨_, capS, hvS, hMS, hAd_⟩ := HS.out.own.form encI
          clear hAd_
          injection hvS with hv1 hv2 hv3
          subst hv1
          subst hv3
          have hl : ks.length = xTakes ms := by rw [hks, hjk, HN1.out]
          rw [← hv2] at hMS hl
          have hcl := hMS.le
          have hcm := hMS.max
          have hop := op_cases12 HN2.out
          clear hn1 hks hjk HN hv2 HN1 HN2 HR
          rcases hop with h1 | h1 | h1 | h1 | h1 | h1 | h1 | h1 | h1 | h1 | h1 | h1
          · subst h1
            obtain rfl : n1 = 2 := hl
            rw [show xApplied bAdd ks = if xAll ks 1 then (1, 0) else (0, 22) from rfl] at HR1
            simp only [bAdd] at c1
            have HR2 := Lib.hid HR1
            have HMS := Lib.hid hMS
            clear HR1 hMS
            go_wp2
            go_loopw [12, 14] (fun fv iv w5 => ∃ (q : Nat) (F : Bool), fv = .bool F ∧ iv = .int .i64 (q : Int) ∧ q ≤ 2 ∧ Hid (F = (ks.take q).all (· == 1)) ∧ Ev wr w5) (fun _ iv _ => 2 - (intOf iv).toNat)
            case atStart => exact ⟨0, true, rfl, rfl, Nat.zero_le _, Lib.hid rfl, Ev.refl _⟩
            case round =>
              obtain ⟨q, F, rfl, rfl, hq, HF, hE5⟩ := hrel
              by_cases hlq : q < 2
              · obtain ⟨x, hx⟩ := HMS.out.at hlq
                obtain ⟨b, off, rfl, hb, x0⟩ := Ks.cell (HMS.out.ev hE5) hx
                have HTK : Hid ((ks.take (q + 1)).all (· == 1) = (F && (x == 1))) := Lib.hid (by
                  obtain ⟨hk2, e⟩ := List.getElem?_eq_some_iff.1 hx
                  rw [List.take_succ_eq_append_getElem hk2, List.all_append, ← HF.out, e]
                  simp)
                have j1 : (0 : Int) ≤ (q : Int) := by omega
                have j2 : (q : Int) < 2 := by omega
                clear hx
                cases F
                · go_wp2
                  go_roundw
                  case rel => exact ⟨q + 1, false, rfl, by go_num, by omega, Lib.hid (by rw [HTK.out]; rfl), hE5⟩
                  case measure => simp [intOf]; omega
                · by_cases hx1 : x = 1
                  · have hxb : (x == 1) = true := beq_iff_eq.2 hx1
                    rw [hx1] at x0
                    clear hx1
                    go_wp2
                    go_roundw
                    case rel => exact ⟨q + 1, true, rfl, by go_num, by omega, Lib.hid (by rw [HTK.out, hxb]; rfl), hE5⟩
                    case measure => simp [intOf]; omega
                  · have hxb : (x == 1) = false := beq_eq_false_iff_ne.2 hx1
                    clear hx1
                    go_wp2
                    go_roundw
                    case rel => exact ⟨q + 1, false, rfl, by go_num, by omega, Lib.hid (by rw [HTK.out, hxb]; rfl), hE5⟩
                    case measure => simp [intOf]; omega
              · have hqk : q = 2 := by omega
                have j2 : ¬ ((q : Int) < 2) := by omega
                have HFF : Hid (xAll ks 1 = F) := Lib.hid (by
                  rw [HF.out, hqk, List.take_of_length_le (by rw [HMS.out.len]; exact Nat.le_refl _)]
                  rfl)
                clear hqk
                cases F
                · go_wp2
                  go_ret2
                  exact ⟨by rw [HR2.out, HFF.out]; rfl, HEW.out.trans hE5⟩
                · go_wp2
                  go_ret2
                  exact ⟨by rw [HR2.out, HFF.out]; rfl, HEW.out.trans hE5⟩
          · subst h1
            obtain rfl : n1 = 2 := hl
            rw [show xApplied bSub ks = if xAll ks 1 then (1, 0) else (0, 22) from rfl] at HR1
            simp only [bSub] at c1
            have HR2 := Lib.hid HR1
            have HMS := Lib.hid hMS
            clear HR1 hMS
            go_wp2
            go_loopw [12, 14] (fun fv iv w5 => ∃ (q : Nat) (F : Bool), fv = .bool F ∧ iv = .int .i64 (q : Int) ∧ q ≤ 2 ∧ Hid (F = (ks.take q).all (· == 1)) ∧ Ev wr w5) (fun _ iv _ => 2 - (intOf iv).toNat)
            case atStart => exact ⟨0, true, rfl, rfl, Nat.zero_le _, Lib.hid rfl, Ev.refl _⟩
            case round =>
              obtain ⟨q, F, rfl, rfl, hq, HF, hE5⟩ := hrel
              by_cases hlq : q < 2
              · obtain ⟨x, hx⟩ := HMS.out.at hlq
                obtain ⟨b, off, rfl, hb, x0⟩ := Ks.cell (HMS.out.ev hE5) hx
                have HTK : Hid ((ks.take (q + 1)).all (· == 1) = (F && (x == 1))) := Lib.hid (by
                  obtain ⟨hk2, e⟩ := List.getElem?_eq_some_iff.1 hx
                  rw [List.take_succ_eq_append_getElem hk2, List.all_append, ← HF.out, e]
                  simp)
                have j1 : (0 : Int) ≤ (q : Int) := by omega
                have j2 : (q : Int) < 2 := by omega
                clear hx
                cases F
                · go_wp2
                  go_roundw
                  case rel => exact ⟨q + 1, false, rfl, by go_num, by omega, Lib.hid (by rw [HTK.out]; rfl), hE5⟩
                  case measure => simp [intOf]; omega
                · by_cases hx1 : x = 1
                  · have hxb : (x == 1) = true := beq_iff_eq.2 hx1
                    rw [hx1] at x0
                    clear hx1
                    go_wp2
                    go_roundw
                    case rel => exact ⟨q + 1, true, rfl, by go_num, by omega, Lib.hid (by rw [HTK.out, hxb]; rfl), hE5⟩
                    case measure => simp [intOf]; omega
                  · have hxb : (x == 1) = false := beq_eq_false_iff_ne.2 hx1
                    clear hx1
                    go_wp2
                    go_roundw
                    case rel => exact ⟨q + 1, false, rfl, by go_num, by omega, Lib.hid (by rw [HTK.out, hxb]; rfl), hE5⟩
                    case measure => simp [intOf]; omega
              · have hqk : q = 2 := by omega
                have j2 : ¬ ((q : Int) < 2) := by omega
                have HFF : Hid (xAll ks 1 = F) := Lib.hid (by
                  rw [HF.out, hqk, List.take_of_length_le (by rw [HMS.out.len]; exact Nat.le_refl _)]
                  rfl)
                clear hqk
                cases F
                · go_wp2
                  go_ret2
                  exact ⟨by rw [HR2.out, HFF.out]; rfl, HEW.out.trans hE5⟩
                · go_wp2
                  go_ret2
                  exact ⟨by rw [HR2.out, HFF.out]; rfl, HEW.out.trans hE5⟩
          · subst h1
            obtain rfl : n1 = 2 := hl
            rw [show xApplied bMul ks = if xAll ks 1 then (1, 0) else (0, 22) from rfl] at HR1
            simp only [bMul] at c1
            have HR2 := Lib.hid HR1
            have HMS := Lib.hid hMS
            clear HR1 hMS
            go_wp2
            go_loopw [12, 14] (fun fv iv w5 => ∃ (q : Nat) (F : Bool), fv = .bool F ∧ iv = .int .i64 (q : Int) ∧ q ≤ 2 ∧ Hid (F = (ks.take q).all (· == 1)) ∧ Ev wr w5) (fun _ iv _ => 2 - (intOf iv).toNat)
            case atStart => exact ⟨0, true, rfl, rfl, Nat.zero_le _, Lib.hid rfl, Ev.refl _⟩
            case round =>
              obtain ⟨q, F, rfl, rfl, hq, HF, hE5⟩ := hrel
              by_cases hlq : q < 2
              · obtain ⟨x, hx⟩ := HMS.out.at hlq
                obtain ⟨b, off, rfl, hb, x0⟩ := Ks.cell (HMS.out.ev hE5) hx
                have HTK : Hid ((ks.take (q + 1)).all (· == 1) = (F && (x == 1))) := Lib.hid (by
                  obtain ⟨hk2, e⟩ := List.getElem?_eq_some_iff.1 hx
                  rw [List.take_succ_eq_append_getElem hk2, List.all_append, ← HF.out, e]
                  simp)
                have j1 : (0 : Int) ≤ (q : Int) := by omega
                have j2 : (q : Int) < 2 := by omega
                clear hx
                cases F
                · go_wp2
                  go_roundw
                  case rel => exact ⟨q + 1, false, rfl, by go_num, by omega, Lib.hid (by rw [HTK.out]; rfl), hE5⟩
                  case measure => simp [intOf]; omega
                · by_cases hx1 : x = 1
                  · have hxb : (x == 1) = true := beq_iff_eq.2 hx1
                    rw [hx1] at x0
                    clear hx1
                    go_wp2
                    go_roundw
                    case rel => exact ⟨q + 1, true, rfl, by go_num, by omega, Lib.hid (by rw [HTK.out, hxb]; rfl), hE5⟩
                    case measure => simp [intOf]; omega
                  · have hxb : (x == 1) = false := beq_eq_false_iff_ne.2 hx1
                    clear hx1
                    go_wp2
                    go_roundw
                    case rel => exact ⟨q + 1, false, rfl, by go_num, by omega, Lib.hid (by rw [HTK.out, hxb]; rfl), hE5⟩
                    case measure => simp [intOf]; omega
              · have hqk : q = 2 := by omega
                have j2 : ¬ ((q : Int) < 2) := by omega
                have HFF : Hid (xAll ks 1 = F) := Lib.hid (by
                  rw [HF.out, hqk, List.take_of_length_le (by rw [HMS.out.len]; exact Nat.le_refl _)]
                  rfl)
                clear hqk
                cases F
                · go_wp2
                  go_ret2
                  exact ⟨by rw [HR2.out, HFF.out]; rfl, HEW.out.trans hE5⟩
                · go_wp2
                  go_ret2
                  exact ⟨by rw [HR2.out, HFF.out]; rfl, HEW.out.trans hE5⟩
          · subst h1
            obtain rfl : n1 = 2 := hl
            rw [show xApplied bAnd ks = if xAll ks 1 then (1, 0) else (0, 22) from rfl] at HR1
            simp only [bAnd] at c1
            have HR2 := Lib.hid HR1
            have HMS := Lib.hid hMS
            clear HR1 hMS
            go_wp2
            go_loopw [12, 14] (fun fv iv w5 => ∃ (q : Nat) (F : Bool), fv = .bool F ∧ iv = .int .i64 (q : Int) ∧ q ≤ 2 ∧ Hid (F = (ks.take q).all (· == 1)) ∧ Ev wr w5) (fun _ iv _ => 2 - (intOf iv).toNat)
            case atStart => exact ⟨0, true, rfl, rfl, Nat.zero_le _, Lib.hid rfl, Ev.refl _⟩
            case round =>
              obtain ⟨q, F, rfl, rfl, hq, HF, hE5⟩ := hrel
              by_cases hlq : q < 2
              · obtain ⟨x, hx⟩ := HMS.out.at hlq
                obtain ⟨b, off, rfl, hb, x0⟩ := Ks.cell (HMS.out.ev hE5) hx
                have HTK : Hid ((ks.take (q + 1)).all (· == 1) = (F && (x == 1))) := Lib.hid (by
                  obtain ⟨hk2, e⟩ := List.getElem?_eq_some_iff.1 hx
                  rw [List.take_succ_eq_append_getElem hk2, List.all_append, ← HF.out, e]
                  simp)
                have j1 : (0 : Int) ≤ (q : Int) := by omega
                have j2 : (q : Int) < 2 := by omega
                clear hx
                cases F
                · go_wp2
                  go_roundw
                  case rel => exact ⟨q + 1, false, rfl, by go_num, by omega, Lib.hid (by rw [HTK.out]; rfl), hE5⟩
                  case measure => simp [intOf]; omega
                · by_cases hx1 : x = 1
                  · have hxb : (x == 1) = true := beq_iff_eq.2 hx1
                    rw [hx1] at x0
                    clear hx1
                    go_wp2
                    go_roundw
                    case rel => exact ⟨q + 1, true, rfl, by go_num, by omega, Lib.hid (by rw [HTK.out, hxb]; rfl), hE5⟩
                    case measure => simp [intOf]; omega
                  · have hxb : (x == 1) = false := beq_eq_false_iff_ne.2 hx1
                    clear hx1
                    go_wp2
                    go_roundw
                    case rel => exact ⟨q + 1, false, rfl, by go_num, by omega, Lib.hid (by rw [HTK.out, hxb]; rfl), hE5⟩
                    case measure => simp [intOf]; omega
              · have hqk : q = 2 := by omega
                have j2 : ¬ ((q : Int) < 2) := by omega
                have HFF : Hid (xAll ks 1 = F) := Lib.hid (by
                  rw [HF.out, hqk, List.take_of_length_le (by rw [HMS.out.len]; exact Nat.le_refl _)]
                  rfl)
                clear hqk
                cases F
                · go_wp2
                  go_ret2
                  exact ⟨by rw [HR2.out, HFF.out]; rfl, HEW.out.trans hE5⟩
                · go_wp2
                  go_ret2
                  exact ⟨by rw [HR2.out, HFF.out]; rfl, HEW.out.trans hE5⟩
          · subst h1
            obtain rfl : n1 = 2 := hl
            rw [show xApplied bOr ks = if xAll ks 1 then (1, 0) else (0, 22) from rfl] at HR1
            simp only [bOr] at c1
            have HR2 := Lib.hid HR1
            have HMS := Lib.hid hMS
            clear HR1 hMS
            go_wp2
            go_loopw [12, 14] (fun fv iv w5 => ∃ (q : Nat) (F : Bool), fv = .bool F ∧ iv = .int .i64 (q : Int) ∧ q ≤ 2 ∧ Hid (F = (ks.take q).all (· == 1)) ∧ Ev wr w5) (fun _ iv _ => 2 - (intOf iv).toNat)
            case atStart => exact ⟨0, true, rfl, rfl, Nat.zero_le _, Lib.hid rfl, Ev.refl _⟩
            case round =>
              obtain ⟨q, F, rfl, rfl, hq, HF, hE5⟩ := hrel
              by_cases hlq : q < 2
              · obtain ⟨x, hx⟩ := HMS.out.at hlq
                obtain ⟨b, off, rfl, hb, x0⟩ := Ks.cell (HMS.out.ev hE5) hx
                have HTK : Hid ((ks.take (q + 1)).all (· == 1) = (F && (x == 1))) := Lib.hid (by
                  obtain ⟨hk2, e⟩ := List.getElem?_eq_some_iff.1 hx
                  rw [List.take_succ_eq_append_getElem hk2, List.all_append, ← HF.out, e]
                  simp)
                have j1 : (0 : Int) ≤ (q : Int) := by omega
                have j2 : (q : Int) < 2 := by omega
                clear hx
                cases F
                · go_wp2
                  go_roundw
                  case rel => exact ⟨q + 1, false, rfl, by go_num, by omega, Lib.hid (by rw [HTK.out]; rfl), hE5⟩
                  case measure => simp [intOf]; omega
                · by_cases hx1 : x = 1
                  · have hxb : (x == 1) = true := beq_iff_eq.2 hx1
                    rw [hx1] at x0
                    clear hx1
                    go_wp2
                    go_roundw
                    case rel => exact ⟨q + 1, true, rfl, by go_num, by omega, Lib.hid (by rw [HTK.out, hxb]; rfl), hE5⟩
                    case measure => simp [intOf]; omega
                  · have hxb : (x == 1) = false := beq_eq_false_iff_ne.2 hx1
                    clear hx1
                    go_wp2
                    go_roundw
                    case rel => exact ⟨q + 1, false, rfl, by go_num, by omega, Lib.hid (by rw [HTK.out, hxb]; rfl), hE5⟩
                    case measure => simp [intOf]; omega
              · have hqk : q = 2 := by omega
                have j2 : ¬ ((q : Int) < 2) := by omega
                have HFF : Hid (xAll ks 1 = F) := Lib.hid (by
                  rw [HF.out, hqk, List.take_of_length_le (by rw [HMS.out.len]; exact Nat.le_refl _)]
                  rfl)
                clear hqk
                cases F
                · go_wp2
                  go_ret2
                  exact ⟨by rw [HR2.out, HFF.out]; rfl, HEW.out.trans hE5⟩
                · go_wp2
                  go_ret2
                  exact ⟨by rw [HR2.out, HFF.out]; rfl, HEW.out.trans hE5⟩
          · subst h1
            obtain rfl : n1 = 1 := hl
            rw [show xApplied bNeg ks = if xAll ks 1 then (1, 0) else (0, 22) from rfl] at HR1
            simp only [bNeg] at c1
            have HR2 := Lib.hid HR1
            have HMS := Lib.hid hMS
            clear HR1 hMS
            go_wp2
            go_loopw [12, 14] (fun fv iv w5 => ∃ (q : Nat) (F : Bool), fv = .bool F ∧ iv = .int .i64 (q : Int) ∧ q ≤ 1 ∧ Hid (F = (ks.take q).all (· == 1)) ∧ Ev wr w5) (fun _ iv _ => 1 - (intOf iv).toNat)
            case atStart => exact ⟨0, true, rfl, rfl, Nat.zero_le _, Lib.hid rfl, Ev.refl _⟩
            case round =>
              obtain ⟨q, F, rfl, rfl, hq, HF, hE5⟩ := hrel
              by_cases hlq : q < 1
              · obtain ⟨x, hx⟩ := HMS.out.at hlq
                obtain ⟨b, off, rfl, hb, x0⟩ := Ks.cell (HMS.out.ev hE5) hx
                have HTK : Hid ((ks.take (q + 1)).all (· == 1) = (F && (x == 1))) := Lib.hid (by
                  obtain ⟨hk2, e⟩ := List.getElem?_eq_some_iff.1 hx
                  rw [List.take_succ_eq_append_getElem hk2, List.all_append, ← HF.out, e]
                  simp)
                have j1 : (0 : Int) ≤ (q : Int) := by omega
                have j2 : (q : Int) < 1 := by omega
                clear hx
                cases F
                · go_wp2
                  go_roundw
                  case rel => exact ⟨q + 1, false, rfl, by go_num, by omega, Lib.hid (by rw [HTK.out]; rfl), hE5⟩
                  case measure => simp [intOf]; omega
                · by_cases hx1 : x = 1
                  · have hxb : (x == 1) = true := beq_iff_eq.2 hx1
                    rw [hx1] at x0
                    clear hx1
                    go_wp2
                    go_roundw
                    case rel => exact ⟨q + 1, true, rfl, by go_num, by omega, Lib.hid (by rw [HTK.out, hxb]; rfl), hE5⟩
                    case measure => simp [intOf]; omega
                  · have hxb : (x == 1) = false := beq_eq_false_iff_ne.2 hx1
                    clear hx1
                    go_wp2
                    go_roundw
                    case rel => exact ⟨q + 1, false, rfl, by go_num, by omega, Lib.hid (by rw [HTK.out, hxb]; rfl), hE5⟩
                    case measure => simp [intOf]; omega
              · have hqk : q = 1 := by omega
                have j2 : ¬ ((q : Int) < 1) := by omega
                have HFF : Hid (xAll ks 1 = F) := Lib.hid (by
                  rw [HF.out, hqk, List.take_of_length_le (by rw [HMS.out.len]; exact Nat.le_refl _)]
                  rfl)
                clear hqk
                cases F
                · go_wp2
                  go_ret2
                  exact ⟨by rw [HR2.out, HFF.out]; rfl, HEW.out.trans hE5⟩
                · go_wp2
                  go_ret2
                  exact ⟨by rw [HR2.out, HFF.out]; rfl, HEW.out.trans hE5⟩
          · subst h1
            obtain rfl : n1 = 1 := hl
            rw [show xApplied bNot ks = if xAll ks 1 then (1, 0) else (0, 22) from rfl] at HR1
            simp only [bNot] at c1
            have HR2 := Lib.hid HR1
            have HMS := Lib.hid hMS
            clear HR1 hMS
            go_wp2
            go_loopw [12, 14] (fun fv iv w5 => ∃ (q : Nat) (F : Bool), fv = .bool F ∧ iv = .int .i64 (q : Int) ∧ q ≤ 1 ∧ Hid (F = (ks.take q).all (· == 1)) ∧ Ev wr w5) (fun _ iv _ => 1 - (intOf iv).toNat)
            case atStart => exact ⟨0, true, rfl, rfl, Nat.zero_le _, Lib.hid rfl, Ev.refl _⟩
            case round =>
              obtain ⟨q, F, rfl, rfl, hq, HF, hE5⟩ := hrel
              by_cases hlq : q < 1
              · obtain ⟨x, hx⟩ := HMS.out.at hlq
                obtain ⟨b, off, rfl, hb, x0⟩ := Ks.cell (HMS.out.ev hE5) hx
                have HTK : Hid ((ks.take (q + 1)).all (· == 1) = (F && (x == 1))) := Lib.hid (by
                  obtain ⟨hk2, e⟩ := List.getElem?_eq_some_iff.1 hx
                  rw [List.take_succ_eq_append_getElem hk2, List.all_append, ← HF.out, e]
                  simp)
                have j1 : (0 : Int) ≤ (q : Int) := by omega
                have j2 : (q : Int) < 1 := by omega
                clear hx
                cases F
                · go_wp2
                  go_roundw
                  case rel => exact ⟨q + 1, false, rfl, by go_num, by omega, Lib.hid (by rw [HTK.out]; rfl), hE5⟩
                  case measure => simp [intOf]; omega
                · by_cases hx1 : x = 1
                  · have hxb : (x == 1) = true := beq_iff_eq.2 hx1
                    rw [hx1] at x0
                    clear hx1
                    go_wp2
                    go_roundw
                    case rel => exact ⟨q + 1, true, rfl, by go_num, by omega, Lib.hid (by rw [HTK.out, hxb]; rfl), hE5⟩
                    case measure => simp [intOf]; omega
                  · have hxb : (x == 1) = false := beq_eq_false_iff_ne.2 hx1
                    clear hx1
                    go_wp2
                    go_roundw
                    case rel => exact ⟨q + 1, false, rfl, by go_num, by omega, Lib.hid (by rw [HTK.out, hxb]; rfl), hE5⟩
                    case measure => simp [intOf]; omega
              · have hqk : q = 1 := by omega
                have j2 : ¬ ((q : Int) < 1) := by omega
                have HFF : Hid (xAll ks 1 = F) := Lib.hid (by
                  rw [HF.out, hqk, List.take_of_length_le (by rw [HMS.out.len]; exact Nat.le_refl _)]
                  rfl)
                clear hqk
                cases F
                · go_wp2
                  go_ret2
                  exact ⟨by rw [HR2.out, HFF.out]; rfl, HEW.out.trans hE5⟩
                · go_wp2
                  go_ret2
                  exact ⟨by rw [HR2.out, HFF.out]; rfl, HEW.out.trans hE5⟩
          · subst h1
            obtain rfl : n1 = 2 := hl
            simp only [bEq] at c1
            obtain ⟨y, z, rfl⟩ := two_of hMS.len
            obtain ⟨b, off, rfl, hb, x0⟩ := Ks.cell hMS (i := 0) (x := y) rfl
            obtain ⟨b', off', e', _, x1⟩ := Ks.cell hMS (i := 1) (x := z) rfl
            injection e' with e'
            injection e' with e1 e2 _
            subst e1
            subst e2
            simp only [Nat.add_zero] at x0
            rw [show xApplied bEq [y, z] = if y == z then (1, 0) else (0, 22) from rfl] at HR1
            by_cases hx : y = z
            · have g : (y == z) = true := beq_iff_eq.2 hx
              have HR2 : Hid (R = (1, 0)) := Lib.hid (by rw [HR1, if_pos g])
              clear HR1 hMS hx
              go_wp2
              go_quiet (fail)
              go_wp2
              go_ret2
              exact ⟨by rw [HR2.out]; rfl, HEW.out.trans (Ev.drewN _ _)⟩
            · have g : (y == z) = false := beq_eq_false_iff_ne.2 hx
              have HR2 : Hid (R = (0, 22)) := Lib.hid (by rw [HR1, g]; rfl)
              clear HR1 hMS hx
              go_wp2
              go_quiet (fail)
              go_wp2
              go_ret2
              exact ⟨by rw [HR2.out]; rfl, HEW.out.trans (Ev.drewN _ _)⟩
          · subst h1
            obtain rfl : n1 = 2 := hl
            simp only [bLt] at c1
            obtain ⟨y, z, rfl⟩ := two_of hMS.len
            obtain ⟨b, off, rfl, hb, x0⟩ := Ks.cell hMS (i := 0) (x := y) rfl
            obtain ⟨b', off', e', _, x1⟩ := Ks.cell hMS (i := 1) (x := z) rfl
            injection e' with e'
            injection e' with e1 e2 _
            subst e1
            subst e2
            simp only [Nat.add_zero] at x0
            rw [show xApplied bLt [y, z] = if y == z then (1, 0) else (0, 22) from rfl] at HR1
            by_cases hx : y = z
            · have g : (y == z) = true := beq_iff_eq.2 hx
              have HR2 : Hid (R = (1, 0)) := Lib.hid (by rw [HR1, if_pos g])
              clear HR1 hMS hx
              go_wp2
              go_quiet (fail)
              go_wp2
              go_ret2
              exact ⟨by rw [HR2.out]; rfl, HEW.out.trans (Ev.drewN _ _)⟩
            · have g : (y == z) = false := beq_eq_false_iff_ne.2 hx
              have HR2 : Hid (R = (0, 22)) := Lib.hid (by rw [HR1, g]; rfl)
              clear HR1 hMS hx
              go_wp2
              go_quiet (fail)
              go_wp2
              go_ret2
              exact ⟨by rw [HR2.out]; rfl, HEW.out.trans (Ev.drewN _ _)⟩
          · subst h1
            obtain rfl : n1 = 2 := hl
            simp only [bCat] at c1
            obtain ⟨y, z, rfl⟩ := two_of hMS.len
            obtain ⟨b, off, rfl, hb, x0⟩ := Ks.cell hMS (i := 0) (x := y) rfl
            obtain ⟨b', off', e', _, x1⟩ := Ks.cell hMS (i := 1) (x := z) rfl
            injection e' with e'
            injection e' with e1 e2 _
            subst e1
            subst e2
            simp only [Nat.add_zero] at x0
            rw [show xApplied bCat [y, z] = if (y == 2 && (z == 2 && true)) then (2, 0) else (0, 22) from rfl] at HR1
            by_cases hy : y = 2
            · by_cases hz : z = 2
              · have HR2 : Hid (R = (2, 0)) := Lib.hid (by rw [HR1, hy, hz]; rfl)
                rw [hy] at x0
                rw [hz] at x1
                clear HR1 hMS hy hz
                go_wp2
                go_ret2
                exact ⟨by rw [HR2.out]; rfl, HEW.out⟩
              · have g : (z == 2) = false := beq_eq_false_iff_ne.2 hz
                have HR2 : Hid (R = (0, 22)) := Lib.hid (by rw [HR1, hy, g]; rfl)
                rw [hy] at x0
                clear HR1 hMS hy hz
                go_wp2
                go_ret2
                exact ⟨by rw [HR2.out]; rfl, HEW.out⟩
            · have g : (y == 2) = false := beq_eq_false_iff_ne.2 hy
              have HR2 : Hid (R = (0, 22)) := Lib.hid (by rw [HR1, g]; rfl)
              clear HR1 hMS hy
              go_wp2
              go_ret2
              exact ⟨by rw [HR2.out]; rfl, HEW.out⟩
          · subst h1
            obtain rfl : n1 = 1 := hl
            simp only [bLen] at c1
            obtain ⟨y, rfl⟩ : ∃ y, ks = [y] := by
              have := hMS.len
              cases ks with
              | nil => simp at this
              | cons y q => cases q with
                | nil => exact ⟨y, rfl⟩
                | cons z q => simp at this
            obtain ⟨b, off, rfl, hb, x0⟩ := Ks.cell hMS (i := 0) (x := y) rfl
            simp only [Nat.add_zero] at x0
            rw [show xApplied bLen [y] = if (y == 2 && true) then (1, 0) else (0, 22) from rfl] at HR1
            by_cases hy : y = 2
            · have HR2 : Hid (R = (1, 0)) := Lib.hid (by rw [HR1, hy]; rfl)
              rw [hy] at x0
              clear HR1 hMS hy
              go_wp2
              go_ret2
              exact ⟨by rw [HR2.out]; rfl, HEW.out⟩
            · have g : (y == 2) = false := beq_eq_false_iff_ne.2 hy
              have HR2 : Hid (R = (0, 22)) := Lib.hid (by rw [HR1, g]; rfl)
              clear HR1 hMS hy
              go_wp2
              go_ret2
              exact ⟨by rw [HR2.out]; rfl, HEW.out⟩
          · subst h1
            obtain rfl : n1 = 3 := hl
            simp only [bIf] at c1
            obtain ⟨y, z, u, rfl⟩ := three_of hMS.len
            obtain ⟨b, off, rfl, hb, x0⟩ := Ks.cell hMS (i := 0) (x := y) rfl
            obtain ⟨b', off', e', _, x1⟩ := Ks.cell hMS (i := 1) (x := z) rfl
            injection e' with e'
            injection e' with e1 e2 _
            subst e1
            subst e2
            obtain ⟨b', off', e', _, x2⟩ := Ks.cell hMS (i := 2) (x := u) rfl
            injection e' with e'
            injection e' with e1 e2 _
            subst e1
            subst e2
            simp only [Nat.add_zero] at x0
            rw [show xApplied bIf [y, z, u] = if (y == 1 && z == u) then (z, 0) else (0, 22) from rfl] at HR1
            by_cases hy : y = 1
            · by_cases hz : z = u
              · have g : (z == u) = true := beq_iff_eq.2 hz
                have HR2 : Hid (R = (z, 0)) := Lib.hid (by rw [HR1, hy, g]; rfl)
                rw [hy] at x0
                clear HR1 hMS hy hz
                go_wp2
                go_quiet (fail)
                go_wp2
                go_ret2
                exact ⟨by rw [HR2.out]; rfl, HEW.out.trans (Ev.drewN _ _)⟩
              · have g : (z == u) = false := beq_eq_false_iff_ne.2 hz
                have HR2 : Hid (R = (0, 22)) := Lib.hid (by rw [HR1, hy, g]; rfl)
                rw [hy] at x0
                clear HR1 hMS hy hz
                go_wp2
                go_quiet (fail)
                go_wp2
                go_ret2
                exact ⟨by rw [HR2.out]; rfl, HEW.out.trans (Ev.drewN _ _)⟩
            · have g : (y == 1) = false := beq_eq_false_iff_ne.2 hy
              have HR2 : Hid (R = (0, 22)) := Lib.hid (by rw [HR1, g]; rfl)
              clear HR1 hMS hy
              go_wp2
              go_quiet (fail)
              go_wp2
              go_ret2
              exact ⟨by rw [HR2.out]; rfl, HEW.out.trans (Ev.drewN _ _)⟩

set_option maxRecDepth 100000 in
set_option maxHeartbeats 800000 in
theorem rx_type (m : M) (b0 : Nat) (w : World) (A : Option Addr) (n cap : Nat) (cols : List C) (hL : Lx b0 [] w m) (hC : Cs w A n cap cols) (hsz : m.t.size ≤ 100000) (hf : m.t.every fairB = true) :
    Calls Try.prog 13 #[ev_ m, .slice A n cap] w fun e w' => e = .returned (.tuple #[.int .i64 (xType cols m.t).1, .int .i64 (xType cols m.t).2]) ∧ Ev w w' := by
  have HR := fun w1 (hE : Ev w w1) => rx_right m.dep m b0 w1 (Nat.le_refl _) (hL.ev hE) hf hsz
  have HK := fun w1 (hE : Ev w w1) (hr : xRight m.t = true) => rx_kind m.dep m b0 w1 A n cap cols (Nat.le_refl _) (hL.ev hE) (hC.ev hE) hr
  have hE0 := Ev.alloc w (.cells #[.int .i64 m.kind, .string ⟨m.s.toArray⟩, .int .i64 m.n, m.kv] 39)
  have hB := Bx.new 39 #[.int .i64 m.kind, .string ⟨m.s.toArray⟩, .int .i64 m.n, m.kv] w
  obtain ⟨w0, hw0⟩ : ∃ w0, w.alloc (.cells #[.int .i64 m.kind, .string ⟨m.s.toArray⟩, .int .i64 m.n, m.kv] 39) = w0 := ⟨_, rfl⟩
  rw [hw0] at hE0 hB
  have HE := Lib.hid hE0
  have HB := Lib.hid hB
  obtain ⟨⟨c0, c1, c2, c3⟩, _⟩ := hB.four
  unfold xType
  generalize xKind cols m.t = rk at *
  obtain ⟨k, y⟩ := rk
  unfold ev_ at *
  unfold M.kv at *
  simp only at HK
  clear hL hC hsz hf hE0 hB
  cases hr : xRight m.t with
  | false =>
    rw [hr] at HR
    have HR := Lib.hid HR
    clear HK hr
    simp only [Bool.false_eq_true, if_false]
    go_enter Try.func13, Try.ntmps13
    go_wp2_with (first | ((with_reducible refine (HR.out _ HE.out).mono ?_); rintro e w1 ⟨rfl, hE1⟩))
    go_ret2
    exact ⟨rfl, HE.out.trans hE1⟩
  | true =>
    rw [hr] at HR
    have HR := Lib.hid HR
    have HK := Lib.hid (fun w1 hE => HK w1 hE hr)
    clear hr
    simp only [if_true]
    go_enter Try.func13, Try.ntmps13
    go_wp2_with (first | ((with_reducible refine (HR.out _ HE.out).mono ?_); rintro e w1 ⟨rfl, hE1⟩; obtain ⟨⟨c0, c1, c2, c3⟩, _⟩ := (HB.out.ev hE1).four) | ((with_reducible refine (HK.out _ (HE.out.trans hE1)).mono ?_); rintro e w2 ⟨rfl, hE2⟩))
    go_ret2
    exact ⟨rfl, (HE.out.trans hE1).trans hE2⟩
end Go.Proofs.Ytgiofdmedhhobaa
