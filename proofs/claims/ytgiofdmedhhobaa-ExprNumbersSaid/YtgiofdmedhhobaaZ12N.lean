/-
  Texts that belong together: Package sexp: take. What a token tells of the byte at which it stands. Package sexp: Read. Chapter 7's runs ('known'). The document's own signs: letters, digits, hexadecimal digits. The document's own number. The document's own number at a place: what the plain number gives of the rest. The document's own text at a place.
-/
import Derived.Deep.RegionWith
import Derived.Test.YtgiofdmedhhobaaZ11N
import Derived.KernelRfl
import Derived.Deep.RegionLaw
import Derived.Test.YtgiofdmedhhobaaZ10N
namespace Go.Proofs.Ytgiofdmedhhobaa
open Go.RowKit
set_option linter.unusedVariables false

/-- append of one tree onto a row of the call's own. -/
theorem wpList_append_m {P : Program} {w : World} {ops : Array Oper} {rest : List Oper} {o : Oper} {a : Act} {Q : Exit → Act → World → Prop} (hgd : o.guard = none) (s x : Operand)
    (hop : o.op = .call { callee := .builtin .append, args := #[s, x], argTypes := #[43, 43] })
    (ht : P.underlying 43 = some (.slice 45)) (hi : (P.info? 45).map (fun i => (i.zero, i.size, i.bytes)) = some (some (.agg #[.int .i64 0, .string ⟨#[]⟩, .int .i64 0, .slice none 0 0, .int .i64 0]), 5, 64))
    (base : Nat) (v : Value) (n : Nat) (xs : List Value) (hs : a.eval s = v) (hown : w.ownsRow base 45 5 v n xs) (b c : Nat) (hx : a.eval x = .slice (some ⟨b, 0, none⟩) 1 c) (m : M)
    (hm : ∀ j u, (mc m)[j]? = some u → w.cell? ⟨b, j, none⟩ = some u) (hn : n ≤ 1000000) (hbase : base ≤ w.heap.size)
    (h : ∀ v' w', w'.ownsRow base 45 5 v' (n + 1) (xs ++ mc m) → w.grownBy w' v.ownBlock → (v'.ownBlock = v.ownBlock ∨ v'.ownBlock = some w.heap.size) → wpList P ops Q rest (a.put o.dst v') w') : wpList P ops Q (o :: rest) a w := by
  refine wpList_plain hgd fun K hK => ?_
  obtain ⟨i, hi0, hz, hsz, hby⟩ := info_parts hi
  obtain ⟨v', w', hr, h1, h2, _, h4⟩ := run_append_own_at (P := P) w base 43 o.type 45 i _ 5 64 ht hi0 hz hsz hby rfl (by decide) v n xs hown ⟨b, 0, none⟩ 1 c (mc m) rfl (fun j u hu => by rw [Addr.add_lit, Nat.zero_add]; exact hm j u hu)
    (fun u hu => mlist_ones [m] u (by rw [mlist_one_]; exact hu)) (by unfold maxLen; omega) (by omega) hbase
  unfold Oper.wp execOp
  simp only [hop, resolve, invoke, builtin, Sem.run_bind, Sem.run_pure, Result.andThen_ok, List.map_toArray, List.map_cons, List.map_nil, hs, hx, hr]
  exact hK _ _ (h v' w' h1 h2 h4)

/-- A token's tree. -/
def mtok (k : Int) (s : By) (n : Int) (p : Nat) : M := .mk k s n none 0 [] p
theorem Lies.tok (b0 : Nat) (K : List Nat) (w : World) (k : Int) (s : By) (n : Int) (p : Nat) : Lies b0 K w (mtok k s n p) := .mk (Sl.nil_ w) (fun _ h => by cases h) (fun _ h => by cases h)
theorem Opn.pop {base : Nat} {w : World} {vb q vcap : Nat} {os : List M} {e : M} (h : Opn base w (.slice (some ⟨vb, 0, none⟩) (q + 1) vcap) (os ++ [e])) (hq : os.length = q) :
    Opn base w (.slice (some ⟨vb, 0, none⟩) q vcap) os ∧ Lies base (blk (.slice (some ⟨vb, 0, none⟩) q vcap) os) w e ∧ (∀ x ∈ blk (.slice (some ⟨vb, 0, none⟩) q vcap) os, x ∈ blk (.slice (some ⟨vb, 0, none⟩) (q + 1) vcap) (os ++ [e])) := by
  subst hq
  have hnd := h.nd
  rw [blk_snoc] at hnd
  have hnd3 := List.nodup_append.1 hnd
  have hbe : blk (.slice (some ⟨vb, 0, none⟩) os.length vcap) os = blk (.slice (some ⟨vb, 0, none⟩) (os.length + 1) vcap) os := rfl
  have hsub : ∀ x ∈ blk (.slice (some ⟨vb, 0, none⟩) os.length vcap) os, x ∈ blk (.slice (some ⟨vb, 0, none⟩) (os.length + 1) vcap) (os ++ [e]) := fun x hx => by
    rw [blk_snoc]
    exact List.mem_append_left _ hx
  have hlies : ∀ m, Lies base (blk (.slice (some ⟨vb, 0, none⟩) (os.length + 1) vcap) (os ++ [e])) w m → Lies base (blk (.slice (some ⟨vb, 0, none⟩) os.length vcap) os) w m := fun m hm => hm.less fun x hx => .inl (hsub x hx)
  refine ⟨⟨?_, fun e0 he0 => h.kid e0 (List.mem_append_left _ he0), by rw [hbe]; exact hnd3.1, fun e0 he0 m hm => hlies m (h.lies e0 (List.mem_append_left _ he0) m hm)⟩, ?_, hsub⟩
  · rcases h.own.2 with ⟨hv, _⟩ | ⟨g', cap', cur, hv, hb, hh, hnc, hcm, hcs, ht⟩
    · cases hv
    · injection hv with h1 h2 h3
      injection h1 with h1
      injection h1 with h1 _ _
      subst h1
      subst h3
      have hlen : (os ++ [e]).length = os.length + 1 := by simp
      rw [hlen, mlist_append] at ht
      rw [hlen] at hnc
      refine ⟨by rw [mlist_length], .inr ⟨vb, vcap, cur, rfl, hb, hh, by omega, hcm, hcs, ?_⟩⟩
      have := congrArg (List.take (os.length * 5)) ht
      rw [List.take_take, Nat.min_eq_left (by omega), List.take_left' (mlist_length os)] at this
      exact this
  · have hk := h.kid e (by simp)
    obtain ⟨k, s, n, A, c, l, p⟩ := e
    refine .mk (own_ms hk) (fun ad hA => ?_) fun m hm => hlies m (h.lies (.mk k s n A c l p) (by simp) m hm)
    subst hA
    have hown : (M.kv (.mk k s n (some ad) c l p)).ownBlock = some ad.block := rfl
    refine ⟨(hk.lt _ hown).1, (hk.lt _ hown).2, fun hm => ?_⟩
    rw [hbe] at hm
    exact hnd3.2.2 _ hm _ (mem_foot.2 hown) rfl
theorem snoc_of {α : Type} (l : List α) (h : l ≠ []) : ∃ l' a, l = l' ++ [a] := ⟨l.dropLast, l.getLast h, (List.dropLast_concat_getLast h).symm⟩

theorem foot_own {v v1 : Value} (h : v1.ownBlock = v.ownBlock) : foot v1 = foot v := by unfold foot; rw [h]
theorem Opn.push {base : Nat} {w w2 : World} {v v1 : Value} {os : List M} {q : Nat} {k : Int} {s : By} {n : Int} {p : Nat} (h : Opn base w v os) (hq : q = os.length) (h1 : w2.ownsRow base 45 5 v1 (q + 1) (mlist os ++ mc (mtok k s n p))) (B : But (foot v) w w2)
    (h3 : v1.ownBlock = v.ownBlock ∨ ∃ g, v1.ownBlock = some g ∧ w.heap.size ≤ g) : Opn base w2 v1 (os ++ [mtok k s n p]) ∧ (∀ x ∈ blk v1 (os ++ [mtok k s n p]), x ∈ blk v os ∨ w.heap.size ≤ x) := by
  subst hq
  have hnd3 := List.nodup_append.1 (show (foot v ++ os.flatMap fun e => foot e.kv).Nodup from h.nd)
  have hbe : blk v1 (os ++ [mtok k s n p]) = foot v1 ++ os.flatMap fun e => foot e.kv := by
    rw [blk_snoc, show foot (mtok k s n p).kv = [] from rfl, List.append_nil]
    rfl
  have hsub : ∀ x ∈ blk v1 (os ++ [mtok k s n p]), x ∈ blk v os ∨ w.heap.size ≤ x := fun x hx => by
    rw [hbe] at hx
    rcases List.mem_append.1 hx with h4 | h4
    · rcases h3 with h5 | ⟨g, h5, h6⟩
      · rw [foot_own h5] at h4
        exact .inl (List.mem_append_left _ h4)
      · have := mem_foot.1 h4
        rw [h5] at this
        simp at this
        exact .inr (by omega)
    · exact .inl (List.mem_append_right _ h4)
  refine ⟨⟨by rw [mlist_append, mlist_one_, show (os ++ [mtok k s n p]).length = os.length + 1 by simp]; exact h1, fun e he => ?_, ?_, fun e he m hm => ?_⟩, hsub⟩
  · rcases List.mem_append.1 he with h4 | h4
    · exact own_but (h.kid e h4) B fun g hg hm => hnd3.2.2 _ hm _ (List.mem_flatMap.2 ⟨e, h4, mem_foot.2 hg⟩) rfl
    · simp at h4
      subst h4
      exact World.ownsRow_nil _ _ _ _
  · rw [hbe, List.nodup_append]
    refine ⟨?_, hnd3.2.1, fun a ha b hb => ?_⟩
    · unfold foot
      cases v1.ownBlock <;> simp
    · rcases h3 with h5 | ⟨g, h5, h6⟩
      · rw [foot_own h5] at ha
        exact hnd3.2.2 a ha b hb
      · have h7 := mem_foot.1 ha
        rw [h5] at h7
        simp at h7
        have h8 := (h.range (g := b) (List.mem_append_right _ hb)).2
        omega
  · rcases List.mem_append.1 he with h4 | h4
    · exact (h.lies e h4 m hm).move (B.wide fun x hx => .inl (List.mem_append_left _ hx)) (fun x hx => (hsub x hx).imp id .inr)
    · simp at h4
      subst h4
      cases hm

/-- What take leaves. -/
def TakeOut (base : Nat) (v : Value) (os : List M) (t : T) (w : World) (r : Ending) (w' : World) : Prop :=
  ∃ v' os', r = .returned v' ∧ Opn base w' v' os' ∧ os'.map M.t = sxTake (os.map M.t) t ∧ os' ≠ [] ∧ But (blk v os) w w' ∧ (∀ x ∈ blk v' os', x ∈ blk v os ∨ w.heap.size ≤ x)

end Go.Proofs.Ytgiofdmedhhobaa

namespace Go.Proofs.Ytgiofdmedhhobaa
open Go.RowKit
set_option linter.unusedVariables false

theorem sxText_props : ∀ (N : Nat) (r b : By) (i : Nat), r.length ≤ N → ((sxTextGo b r i).why ≠ 0 → (sxTextGo b r i).kind = 0 ∧ ((sxTextGo b r i).fault ≤ i + r.length)) ∧ ((sxTextGo b r i).why = 0 → (sxTextGo b r i).kind = 4 ∧ i + 1 ≤ (sxTextGo b r i).size ∧ (sxTextGo b r i).size ≤ i + r.length)
  | 0, [], b, i, _ => by simp [sxTextGo, sxWrong]
  | N + 1, [], b, i, _ => by simp [sxTextGo, sxWrong]
  | 0, c :: q, b, i, h => by simp at h
  | N + 1, c :: q, b, i, h => by
    have hq : q.length ≤ N := by simpa using h
    unfold sxTextGo
    by_cases hp : sxPlain c = true
    · rw [if_pos hp]
      obtain ⟨h1, h2⟩ := sxText_props N q (b ++ [c]) (i + 1) hq
      refine ⟨fun hw => ⟨(h1 hw).1, by have := (h1 hw).2; simp only [List.length_cons]; omega⟩, fun hw => ⟨(h2 hw).1, by have := (h2 hw).2; omega, by have := (h2 hw).2; simp only [List.length_cons]; omega⟩⟩
    · rw [if_neg hp]
      by_cases h92 : (c.toNat == 92) = true
      · rw [if_pos h92]
        cases q with
        | nil => simp [sxWrong]
        | cons x q1 =>
          simp only []
          cases hx : sxHex x with
          | none =>
            simp [sxWrong]
          | some a =>
            cases q1 with
            | nil => simp [sxWrong]
            | cons y q2 =>
              simp only []
              cases hy : sxHex y with
              | none =>
                simp [sxWrong]
              | some k =>
                simp only []
                obtain ⟨h1, h2⟩ := sxText_props N q2 (b ++ [UInt8.ofNat (16 * a + k)]) (i + 3) (by simp at hq; omega)
                refine ⟨fun hw => ⟨(h1 hw).1, by have := (h1 hw).2; simp only [List.length_cons]; omega⟩, fun hw => ⟨(h2 hw).1, by have := (h2 hw).2; omega, by have := (h2 hw).2; simp only [List.length_cons]; omega⟩⟩
      · rw [if_neg h92]
        by_cases h34 : (c.toNat == 34) = true
        · rw [if_pos h34]
          by_cases h40 : 40 < b.length
          · rw [if_pos h40]
            simp [sxWrong]
          · rw [if_neg h40]
            simp
        · rw [if_neg h34]
          simp [sxWrong]
theorem sxNum_props (plus : Bool) (d : By) (hd : ∀ c ∈ d, sxDigit c = true) : ((sxNum plus d).why ≠ 0 → (sxNum plus d).kind = 0 ∧ (sxNum plus d).fault = 0) ∧
    ((sxNum plus d).why = 0 → (sxNum plus d).kind = 3 ∧ 1 ≤ d.length ∧ (sxNum plus d).size = (if plus then d.length else 1 + d.length) ∧ (if plus then 0 ≤ (sxNum plus d).n else (sxNum plus d).n ≤ 0)) := by
  unfold sxNum
  cases hb : sxBelow d 0 with
  | none => simp [sxWrong]
  | some n =>
    have hr := sxBelow_range d hd 0 n (by omega) (by omega) hb
    simp only []
    by_cases h1 : (d.isEmpty || plus && decide (n = -9223372036854775808)) = true
    · rw [if_pos h1]
      simp [sxWrong]
    · rw [if_neg h1]
      have hne : d.isEmpty = false := by
        cases hd' : d.isEmpty
        · rfl
        · rw [hd'] at h1; simp at h1
      have hlen : 1 ≤ d.length := by
        cases d with
        | nil => simp at hne
        | cons c q => simp
      cases plus
      · simp [hlen]; omega
      · simp [hlen]; omega

/-- What is known of the token at the beginning of some bytes. -/
structure ScanOk (c : UInt8) (r : By) (x : Tk) : Prop where
  bad : x.why ≠ 0 → x.kind = 0 ∧ x.fault ≤ r.length
  good : x.why = 0 → 1 ≤ x.size ∧ x.size ≤ r.length ∧
    ((x.kind = 1 ∧ c.toNat = 40) ∨ x.kind = -1 ∨ (x.kind = 2 ∧ 97 ≤ c.toNat ∧ c.toNat ≤ 122 ∧ ∃ q, x.s = c :: q) ∨ (x.kind = 3 ∧ (c.toNat = 45 ∧ x.n ≤ 0 ∨ 48 ≤ c.toNat ∧ c.toNat ≤ 57 ∧ 0 ≤ x.n)) ∨ (x.kind = 4 ∧ c.toNat = 34))
theorem sxScan_ok (c : UInt8) (q : By) : ScanOk c (c :: q) (sxScan (c :: q)) := by
  simp only [sxScan]
  by_cases h40 : (c.toNat == 40) = true
  · rw [if_pos h40]
    have h40' : c.toNat = 40 := by simpa using h40
    exact ⟨fun h => absurd rfl h, fun _ => ⟨Nat.le_refl _, by simp, .inl ⟨rfl, h40'⟩⟩⟩
  rw [if_neg h40]
  by_cases h41 : (c.toNat == 41) = true
  · rw [if_pos h41]
    exact ⟨fun h => absurd rfl h, fun _ => ⟨Nat.le_refl _, by simp, .inr (.inl rfl)⟩⟩
  rw [if_neg h41]
  by_cases h34 : (c.toNat == 34) = true
  · rw [if_pos h34]
    have h34' : c.toNat = 34 := by simpa using h34
    obtain ⟨h1, h2⟩ := sxText_props q.length q [] 1 (Nat.le_refl _)
    exact ⟨fun h => ⟨(h1 h).1, by have := (h1 h).2; simp; omega⟩, fun h => ⟨by have := (h2 h).2; omega, by have := (h2 h).2; simp; omega, .inr (.inr (.inr (.inr ⟨(h2 h).1, h34'⟩)))⟩⟩
  rw [if_neg h34]
  by_cases hn : (c.toNat == 45 || sxDigit c) = true
  · rw [if_pos hn]
    simp only [sxNumber]
    by_cases h45 : (c.toNat == 45) = true
    · rw [if_pos h45]
      have h45' : c.toNat = 45 := by simpa using h45
      obtain ⟨h1, h2⟩ := sxNum_props false (sxDigits q) (sxDigits_all q)
      have hl := sxDigits_len q
      have hr := sxRun_le sxDigit q
      refine ⟨fun h => ⟨(h1 h).1, by rw [(h1 h).2]; exact Nat.zero_le _⟩, fun h => ?_⟩
      obtain ⟨g1, g2, g3, g4⟩ := h2 h
      simp at g3 g4
      refine ⟨by omega, by simp; omega, .inr (.inr (.inr (.inl ⟨g1, .inl ⟨h45', g4⟩⟩)))⟩
    · rw [if_neg h45]
      have hdg : sxDigit c = true := by simpa [h45] using hn
      have hdg' : 48 ≤ c.toNat ∧ c.toNat ≤ 57 := by simpa [sxDigit] using hdg
      obtain ⟨h1, h2⟩ := sxNum_props true (sxDigits (c :: q)) (sxDigits_all (c :: q))
      have hl := sxDigits_len (c :: q)
      have hr := sxRun_le sxDigit (c :: q)
      refine ⟨fun h => ⟨(h1 h).1, by rw [(h1 h).2]; exact Nat.zero_le _⟩, fun h => ?_⟩
      obtain ⟨g1, g2, g3, g4⟩ := h2 h
      simp at g3 g4
      refine ⟨by omega, by omega, .inr (.inr (.inr (.inl ⟨g1, .inr ⟨hdg'.1, hdg'.2, g4⟩⟩)))⟩
  rw [if_neg hn]
  by_cases hl : sxLetter c = true
  · rw [if_pos hl]
    have hr := sxRun_le sxLetter (c :: q)
    have hr1 : sxRun sxLetter (c :: q) = sxRun sxLetter q + 1 := by simp [sxRun, hl]
    have hl' : 97 ≤ c.toNat ∧ c.toNat ≤ 122 := by simpa [sxLetter] using hl
    refine ⟨fun h => absurd rfl h, fun _ => ⟨by simp only []; omega, hr, .inr (.inr (.inl ⟨rfl, hl'.1, hl'.2, q.take (sxRun sxLetter q), ?_⟩))⟩⟩
    simp only []
    rw [hr1, List.take_succ_cons]
  · rw [if_neg hl]
    exact ⟨fun _ => ⟨rfl, Nat.zero_le _⟩, fun h => by simp [sxWrong] at h⟩
theorem sxJudge_ok {os : List T} {c : UInt8} {r : By} {x : Tk} (h : ScanOk c r x) (hj : (sxJudge os x).1 = 0) : x.why = 0 ∧ (x.kind = -1 → os.length ≠ 1) ∧ (x.kind ≠ -1 → sxDone os = false) ∧ (x.kind = 1 → os.length ≤ 12) := by
  unfold sxJudge at hj
  by_cases h1 : (!(x.why == 0) && !(sxDone os && decide (0 < x.fault))) = true
  · rw [if_pos h1] at hj
    simp only at hj
    rw [hj] at h1
    simp at h1
  rw [if_neg h1] at hj
  by_cases h2 : (x.kind == -1 && os.length == 1) = true
  · rw [if_pos h2] at hj; cases hj
  rw [if_neg h2] at hj
  by_cases h3 : (!(x.kind == -1) && sxDone os) = true
  · rw [if_pos h3] at hj; cases hj
  rw [if_neg h3] at hj
  by_cases h4 : (x.kind == 1 && decide (12 < os.length)) = true
  · rw [if_pos h4] at hj; cases hj
  have hw : x.why = 0 := by
    apply Classical.byContradiction
    intro hw
    have hk := (h.bad hw).1
    rw [hk] at h3
    have hw' : (x.why == 0) = false := beq_eq_false_iff_ne.2 hw
    rw [hw'] at h1
    cases hD : sxDone os
    · rw [hD] at h1; simp at h1
    · rw [hD] at h3; simp at h3
  refine ⟨hw, fun hk hl => h2 (by rw [hk, hl]; rfl), fun hk => ?_, fun hk => ?_⟩
  · cases hD : sxDone os
    · rfl
    · exact absurd (by rw [hD, beq_eq_false_iff_ne.2 hk]; rfl) h3
  · apply Classical.byContradiction
    intro hl
    exact h4 (by rw [hk, decide_eq_true (by omega)]; rfl)
theorem sxJudge_fault {os : List T} {c : UInt8} {r : By} {x : Tk} (h : ScanOk c r x) (hj : (sxJudge os x).1 ≠ 0) : (sxJudge os x).2 ≤ r.length := by
  unfold sxJudge at hj ⊢
  by_cases h1 : (!(x.why == 0) && !(sxDone os && decide (0 < x.fault))) = true
  · rw [if_pos h1] at hj ⊢
    exact (h.bad hj).2
  rw [if_neg h1]
  split
  · exact Nat.zero_le _
  · split
    · exact Nat.zero_le _
    · split <;> exact Nat.zero_le _
end Go.Proofs.Ytgiofdmedhhobaa

namespace Go.Proofs.Ytgiofdmedhhobaa
open Go.RowKit
set_option linter.unusedVariables false

theorem sxPut_len : ∀ (os : List T) (t : T), (sxPut os t).length = os.length
  | [], t => rfl
  | [e], t => rfl
  | e :: e' :: os, t => by
    have := sxPut_len (e' :: os) t
    unfold sxPut
    simp only [List.length_cons] at this ⊢
    omega
theorem T.add_kids (e t : T) : (e.add t).kids = e.kids ++ [t] := rfl
theorem sxPut_kids : ∀ (os : List T) (t : T) (i : Nat), (∀ e ∈ os, e.kids.length ≤ i) → ∀ e ∈ sxPut os t, e.kids.length ≤ i + 1
  | [], t, i, h => fun e he => by cases he
  | [a], t, i, h => fun e he => by
    simp [sxPut] at he
    subst he
    rw [T.add_kids]
    have := h a (by simp)
    simp
    omega
  | a :: b :: os, t, i, h => fun e he => by
    unfold sxPut at he
    rcases List.mem_cons.1 he with rfl | he
    · have := h e (by simp); omega
    · exact sxPut_kids (b :: os) t i (fun x hx => h x (List.mem_cons_of_mem _ hx)) e he
theorem sxTake_len (os : List T) (t : T) : (sxTake os t).length ≤ os.length + 1 := by
  unfold sxTake
  split
  · simp
  · split
    · cases h : os.getLast? with
      | none => simp
      | some e => simp only [sxPut_len, List.length_dropLast]; omega
    · rw [sxPut_len]; omega
theorem sxTake_kids (os : List T) (t : T) (i : Nat) (h : ∀ e ∈ os, e.kids.length ≤ i) (ht : t.kids = []) : ∀ e ∈ sxTake os t, e.kids.length ≤ i + 1 := by
  unfold sxTake
  split
  · intro e he
    rcases List.mem_append.1 he with h1 | h1
    · have := h e h1; omega
    · simp at h1
      subst h1
      rw [ht]; simp
  · split
    · cases hl : os.getLast? with
      | none => exact fun e he => by have := h e he; omega
      | some e0 =>
        exact sxPut_kids _ _ i (fun x hx => h x (List.dropLast_subset _ hx))
    · exact sxPut_kids _ _ i h

/-- The result's box. -/
structure TrBox (g : Nat) (w : World) : Prop where
  blk : w.heap[g]? = some (.cells (mraw 0 0 0 ⟨#[]⟩ (.slice none 0 0)) 45 (0, 0))
theorem TrBox.but {K : List Nat} {g : Nat} {w w' : World} (h : TrBox g w) (hb : But K w w') (hn : g ∉ K) : TrBox g w' := ⟨hb.heap h.blk hn⟩
theorem TrBox.ev {g : Nat} {w w' : World} (h : TrBox g w) (hE : Ev w w') : TrBox g w' := h.but (But.of_ev (K := []) hE) (by simp)
theorem TrBox.cs {g : Nat} {w : World} (h : TrBox g w) : w.cell? ⟨g, 0, none⟩ = some (.int .i64 0) ∧ w.cell? ⟨g, 1, none⟩ = some (.string ⟨#[]⟩) ∧ w.cell? ⟨g, 2, none⟩ = some (.int .i64 0) ∧ w.cell? ⟨g, 3, none⟩ = some (.slice none 0 0) ∧ w.cell? ⟨g, 4, none⟩ = some (.int .i64 0) ∧
    w.frozen? ⟨g, 0, none⟩ = false ∧ w.frozen? ⟨g, 1, none⟩ = false ∧ w.frozen? ⟨g, 2, none⟩ = false ∧ w.frozen? ⟨g, 3, none⟩ = false ∧ w.frozen? ⟨g, 4, none⟩ = false := by
  refine ⟨?_, ?_, ?_, ?_, ?_, Lib.frozen_of_heap h.blk 0, Lib.frozen_of_heap h.blk 1, Lib.frozen_of_heap h.blk 2, Lib.frozen_of_heap h.blk 3, Lib.frozen_of_heap h.blk 4⟩ <;> (rw [Lib.cell_of_heap h.blk]; rfl)
def trSet (g : Nat) (k n p : Int) (s : ByteArray) (v : Value) (w : World) : World :=
  ((((w.setCell ⟨g, 0, none⟩ (.int .i64 k)).setCell ⟨g, 1, none⟩ (.string s)).setCell ⟨g, 2, none⟩ (.int .i64 n)).setCell ⟨g, 3, none⟩ v).setCell ⟨g, 4, none⟩ (.int .i64 p)
theorem trSet_fold (g : Nat) (k n p : Int) (s : ByteArray) (v : Value) (w : World) :
  ((((w.setCell ⟨g, 0, none⟩ (.int .i64 k)).setCell ⟨g, 1, none⟩ (.string s)).setCell ⟨g, 2, none⟩ (.int .i64 n)).setCell ⟨g, 3, none⟩ v).setCell ⟨g, 4, none⟩ (.int .i64 p) = trSet g k n p s v w := rfl
theorem trSet_but (g : Nat) (k n p : Int) (s : ByteArray) (v : Value) (w : World) : But [g] w (trSet g k n p s v w) :=
  ((((But.setCell ⟨g, 0, none⟩ _ (by simp)).then (But.setCell ⟨g, 1, none⟩ _ (by simp))).then (But.setCell ⟨g, 2, none⟩ _ (by simp))).then (But.setCell ⟨g, 3, none⟩ _ (by simp))).then (But.setCell ⟨g, 4, none⟩ _ (by simp))
theorem TrBox.set {g : Nat} {w : World} (h : TrBox g w) (k n p : Int) (s : ByteArray) (v : Value) : (trSet g k n p s v w).heap[g]? = some (.cells (mraw k n p s v) 45 (0, 0)) := by
  have := set_heap 4 (.int .i64 p) (set_heap 3 v (set_heap 2 (.int .i64 n) (set_heap 1 (.string s) (set_heap 0 (.int .i64 k) h.blk))))
  rwa [show (((((mraw 0 0 0 ⟨#[]⟩ (.slice none 0 0)).setIfInBounds 0 (.int .i64 k)).setIfInBounds 1 (.string s)).setIfInBounds 2 (.int .i64 n)).setIfInBounds 3 v).setIfInBounds 4 (.int .i64 p) = mraw k n p s v by simp [mraw]] at this
theorem tr_done {w1 : World} {g : Nat} {fn : Func} {p u1 u2 : Tmp} (tmps : Array Value) (h : TrBox g w1) (k n q : Int) (s : ByteArray) (v : Value) (hf : fn.results = #[.cell p 45, .tmp u1, .tmp u2]) (hp : tmps.getD p undef = .pointer (some ⟨g, 0, none⟩)) :
    (results fn tmps).run Try.prog (trSet g k n q s v w1) = .ok (.tuple #[.agg (mraw k n q s v), tmps.getD u1 undef, tmps.getD u2 undef]) (trSet g k n q s v w1) :=
  ret_tree2 hf tmps _ g k n q s v hp (h.set k n q s v)

/-- In the midst of reading. -/
structure RdSt (w0 : World) (v : Value) (os : List M) (i : Nat) (w : World) : Prop where
  opn : Opn (w0.heap.size + 1) w v os
  ev : Ev w0 w
  box : TrBox w0.heap.size w
  some_ : os ≠ []
  few : os.length ≤ i + 1
  kids : ∀ e ∈ os, e.kids.length ≤ i
theorem RdSt.evs {w0 w w' : World} {v : Value} {os : List M} {i : Nat} (h : RdSt w0 v os i w) (hE : Ev w w') : RdSt w0 v os i w' :=
  ⟨h.opn.ev hE, h.ev.trans hE, h.box.ev hE, h.some_, h.few, h.kids⟩
theorem RdSt.high {w0 w : World} {v : Value} {os : List M} {i : Nat} (h : RdSt w0 v os i w) : ∀ x ∈ blk v os, w0.heap.size < x := fun x hx => by have := (h.opn.range hx).1; omega
theorem RdSt.next {w0 w w' : World} {v v' : Value} {os os' : List M} {i i' : Nat} {t : T} (h : RdSt w0 v os i w) (ho : Opn (w0.heap.size + 1) w' v' os') (hm : os'.map M.t = sxTake (os.map M.t) t) (ht : t.kids = []) (hn : os' ≠ []) (hb : But (blk v os) w w') (hi : i < i') : RdSt w0 v' os' i' w' := by
  refine ⟨ho, ((But.of_ev (K := blk v os) h.ev).then hb).ev fun k hk => by have := h.high k hk; omega, h.box.but hb fun hk => by have := h.high _ hk; omega, hn, ?_, fun e he => ?_⟩
  · have h1 := sxTake_len (os.map M.t) t
    rw [← hm, List.length_map, List.length_map] at h1
    have := h.few
    omega
  · have h1 := sxTake_kids (os.map M.t) t i (fun e he => by
      obtain ⟨m, hm', rfl⟩ := List.mem_map.1 he
      rw [M.t_kids, List.length_map]
      exact h.kids m hm') ht e.t (by rw [← hm]; exact List.mem_map.2 ⟨e, he, rfl⟩)
    rw [M.t_kids, List.length_map] at h1
    omega

theorem take_cell {K : List Nat} {w4 w6 : World} {gx : Nat} {j v : Value} (hb : But K (w4.setCell ⟨gx, 4, none⟩ j) w6) (hx : gx ∉ K) (hlt : gx < w4.heap.size) (c : w4.cell? ⟨gx, 5, none⟩ = some v) : w6.cell? ⟨gx, 5, none⟩ = some v := by
  rw [World.cell?_of_block (w := w4.setCell ⟨gx, 4, none⟩ j) (hb.block gx (by simpa [World.setCell] using hlt) hx)]
  have h2 : (w4.setCell ⟨gx, 4, none⟩ j).cell? ⟨gx, 5, none⟩ = w4.cell? ⟨gx, 5, none⟩ := World.cell?_setCell_other _ _ _ _ (by simp)
  exact h2.trans c
theorem Opn.init (w : World) : Opn (w.heap.size + 1) ((w.alloc (.cells #[.int .i64 0, .string ⟨#[]⟩, .int .i64 0, .slice none 0 0, .int .i64 0] 45)).alloc (.cells #[.int .i64 0, .string ⟨#[]⟩, .int .i64 0, .slice none 0 0, .int .i64 0] 45)) (.slice (some ⟨w.heap.size + 1, 0, none⟩) 1 1) [mzero] := by
  refine ⟨⟨rfl, .inr ⟨w.heap.size + 1, 1, _, rfl, Nat.le_refl _, heap_alloc2_new w _ _, Nat.le_refl _, by decide, rfl, rfl⟩⟩, fun e he => ?_, ?_, fun e he m hm => ?_⟩
  · simp at he
    subst he
    exact World.ownsRow_nil _ _ _ _
  · simp [blk, foot, Value.ownBlock, mzero, M.kv, M.A]
  · simp at he
    subst he
    cases hm

/-- What Read gives. -/
def ReadOut (R : Res) (w : World) (e : Ending) (w' : World) : Prop :=
  ∃ m : M, e = .returned (.tuple #[.agg #[.int .i64 m.kind, .string ⟨m.s.toArray⟩, .int .i64 m.n, .slice m.A m.kids.length m.cap, .int .i64 (m.pos : Int)], .int .i64 R.2.1, .int .i64 (R.2.2 : Int)]) ∧ m.t = R.1 ∧ Lies w.heap.size [] w' m ∧ Ev w w'

end Go.Proofs.Ytgiofdmedhhobaa

namespace Go.Proofs.Ytgiofdmedhhobaa
open Go.RowKit
set_option linter.unusedVariables false

theorem known_read1 : sxRead [40, 97, 32, 45, 51, 32, 34, 120, 92, 50, 50, 34, 41] = (.mk 1 [] 0 [.mk 2 [97] 0 [] 1, .mk 3 [] (-3) [] 3, .mk 4 [120, 34] 0 [] 6] 0, 0, 0) := by kernel_rfl
theorem known_read2 : sxRead [40] = (sxZero, 10, 1) := by kernel_rfl

theorem known_tree {w : World} {m : M} {b0 : Nat} {K : List Nat} (hm : m.t = .mk 1 [] 0 [.mk 2 [97] 0 [] 1, .mk 3 [] (-3) [] 3, .mk 4 [120, 34] 0 [] 6] 0) (hl : Lies b0 K w m) :
    ∃ (s : By) (n : Int) (b off cap : Nat) (l : List M) (p : Nat), m = .mk 1 s n (some ⟨b, off, none⟩) cap l p ∧ l.length = 3 ∧ 3 ≤ cap ∧ cap ≤ 9223372036854775807 ∧ b < w.heap.size ∧
      w.cell? ⟨b, off + 7, none⟩ = some (.int .i64 (-3)) ∧ w.cell? ⟨b, off + 11, none⟩ = some (.string ⟨#[120, 34]⟩) := by
  obtain ⟨k, s, n, A, cap, l, p⟩ := m
  simp only [M.t, M.ts_map, T.mk.injEq] at hm
  obtain ⟨rfl, rfl, rfl, h4, rfl⟩ := hm
  have hms := hl.ms
  simp only [M.A, M.kids, M.cap] at hms
  obtain ⟨x0, x1, x2, rfl⟩ : ∃ x0 x1 x2, l = [x0, x1, x2] := by
    cases l with
    | nil => simp at h4
    | cons a l =>
      cases l with
      | nil => simp at h4
      | cons b l =>
        cases l with
        | nil => simp at h4
        | cons c l =>
          cases l with
          | nil => exact ⟨_, _, _, rfl⟩
          | cons d l => simp at h4
  simp only [List.map_cons, List.map_nil, List.cons.injEq, and_true] at h4
  obtain ⟨_, h1, h2⟩ := h4
  obtain ⟨b, off, rfl, hb, _, _, d2, _, _⟩ := hms.cell (i := 1) (x := x1) rfl
  obtain ⟨b', off', e, _, _, e1, _, _, _⟩ := hms.cell (i := 2) (x := x2) rfl
  injection e with e
  injection e with e e' _
  subst e; subst e'
  have hn1 : x1.n = -3 := by
    rw [M.t_eq] at h1
    simp only [T.mk.injEq] at h1
    exact h1.2.2.1
  have hs2 : x2.s = [120, 34] := by
    rw [M.t_eq] at h2
    simp only [T.mk.injEq] at h2
    exact h2.2.1
  rw [hn1] at d2
  rw [hs2] at e1
  exact ⟨_, _, b, off, cap, _, _, rfl, rfl, hms.le, hms.max, hb, d2, e1⟩

theorem World.alloc_size_ (w : World) (o : Obj) : (w.alloc o).heap.size = w.heap.size + 1 := by simp
theorem known_box {w1 w2 : World} {k n p : Int} {s : ByteArray} {v : Value} (h : Ev (w1.alloc (.cells #[.int .i64 k, .string s, .int .i64 n, v, .int .i64 p] 45)) w2) :
    w2.cell? ⟨w1.heap.size, 0, none⟩ = some (.int .i64 k) ∧ w2.cell? ⟨w1.heap.size, 3, none⟩ = some v := by
  have hb : w2.heap[w1.heap.size]? = some (.cells #[.int .i64 k, .string s, .int .i64 n, v, .int .i64 p] 45 (0, 0)) := by
    rw [h.block w1.heap.size (by simp)]
    exact heap_alloc_new _ _
  exact ⟨by rw [Lib.cell_of_heap hb]; rfl, by rw [Lib.cell_of_heap hb]; rfl⟩
end Go.Proofs.Ytgiofdmedhhobaa

namespace Go.Proofs.Ytgiofdmedhhobaa
open Go.RowKit
set_option linter.unusedVariables false

set_option maxRecDepth 100000 in
theorem rf_letter (c : UInt8) (w : World) :
    Calls Try.prog 21 #[.int .u8 (c.toNat : Int)] w fun e w' => e = .returned (.bool (sxLetter c)) ∧ w = w' := by
  by_cases h1 : (97 : Int) ≤ (c.toNat : Int)
  · have e : sxLetter c = decide ((c.toNat : Int) ≤ 122) := by unfold sxLetter; rw [Bool.eq_iff_iff]; simp; omega
    rw [e]
    go_enter Try.func21, Try.ntmps21
    go_wp2
    go_ret
    exact ⟨rfl, rfl⟩
  · have e : sxLetter c = false := by unfold sxLetter; rw [Bool.eq_iff_iff]; simp; omega
    rw [e]
    go_enter Try.func21, Try.ntmps21
    go_wp2
    go_ret
    exact ⟨rfl, rfl⟩

set_option maxRecDepth 100000 in
theorem rf_digit (c : UInt8) (w : World) :
    Calls Try.prog 22 #[.int .u8 (c.toNat : Int)] w fun e w' => e = .returned (.bool (sxDigit c)) ∧ w = w' := by
  by_cases h1 : (48 : Int) ≤ (c.toNat : Int)
  · have e : sxDigit c = decide ((c.toNat : Int) ≤ 57) := by unfold sxDigit; rw [Bool.eq_iff_iff]; simp; omega
    rw [e]
    go_enter Try.func22, Try.ntmps22
    go_wp2
    go_ret
    exact ⟨rfl, rfl⟩
  · have e : sxDigit c = false := by unfold sxDigit; rw [Bool.eq_iff_iff]; simp; omega
    rw [e]
    go_enter Try.func22, Try.ntmps22
    go_wp2
    go_ret
    exact ⟨rfl, rfl⟩

def hexI (c : UInt8) : Int := match sxHex c with
  | none => -1
  | some a => (a : Int)
set_option maxRecDepth 100000 in
set_option maxHeartbeats 800000 in
theorem rf_hex (c : UInt8) (w : World) :
    Calls Try.prog 64 #[.int .u8 (c.toNat : Int)] w fun e w' => e = .returned (.int .i64 (hexI c)) ∧ w = w' := by
  have HD := rf_digit c
  have hlt := c.toNat_lt
  by_cases h1 : 48 ≤ c.toNat ∧ c.toNat ≤ 57
  · have e : hexI c = (c.toNat : Int) - 48 := by unfold hexI sxHex; rw [if_pos h1]; simp; omega
    rw [e]
    rw [show sxDigit c = true by unfold sxDigit; simp; exact h1] at HD
    have HD := Lib.hid HD
    have i1 : IntKind.u8.wrap ((c.toNat : Int) - 48) = (c.toNat : Int) - 48 := IntWalk.u8_in _ (by omega)
    go_enter Try.func64, Try.ntmps64
    go_wp2_with (first | ((with_reducible refine (HD.out _).mono ?_); rintro x w1 ⟨rfl, rfl⟩))
    go_ret
    exact ⟨rfl, rfl⟩
  · rw [show sxDigit c = false by unfold sxDigit; rw [Bool.eq_iff_iff]; simp; omega] at HD
    have HD := Lib.hid HD
    by_cases h2 : 97 ≤ c.toNat
    · have j1 : (97 : Int) ≤ (c.toNat : Int) := by omega
      by_cases h3 : c.toNat ≤ 102
      · have e : hexI c = (c.toNat : Int) - 97 + 10 := by unfold hexI sxHex; rw [if_neg h1, if_pos ⟨h2, h3⟩]; simp; omega
        rw [e]
        have j2 : (c.toNat : Int) ≤ 102 := by omega
        have i1 : IntKind.u8.wrap ((c.toNat : Int) - 97) = (c.toNat : Int) - 97 := IntWalk.u8_in _ (by omega)
        go_enter Try.func64, Try.ntmps64
        go_wp2_with (first | ((with_reducible refine (HD.out _).mono ?_); rintro x w1 ⟨rfl, rfl⟩))
        go_ret
        exact ⟨rfl, rfl⟩
      · have e : hexI c = -1 := by unfold hexI sxHex; rw [if_neg h1, if_neg (fun h => h3 h.2)]
        rw [e]
        have j2 : ¬ ((c.toNat : Int) ≤ 102) := by omega
        go_enter Try.func64, Try.ntmps64
        go_wp2_with (first | ((with_reducible refine (HD.out _).mono ?_); rintro x w1 ⟨rfl, rfl⟩))
        go_ret
        exact ⟨rfl, rfl⟩
    · have e : hexI c = -1 := by unfold hexI sxHex; rw [if_neg h1, if_neg (fun h => h2 h.1)]
      rw [e]
      have j1 : ¬ ((97 : Int) ≤ (c.toNat : Int)) := by omega
      go_enter Try.func64, Try.ntmps64
      go_wp2_with (first | ((with_reducible refine (HD.out _).mono ?_); rintro x w1 ⟨rfl, rfl⟩))
      go_ret
      exact ⟨rfl, rfl⟩

theorem hexI_lt (c : UInt8) : hexI c < 16 := by
  unfold hexI
  cases h : sxHex c with
  | none => decide
  | some a => have := sxHex_lt h; simp only []; omega
theorem hexI_none {c : UInt8} (h : sxHex c = none) : hexI c = -1 := by unfold hexI; rw [h]
theorem hexI_some {c : UInt8} {a : Nat} (h : sxHex c = some a) : hexI c = (a : Int) := by unfold hexI; rw [h]

/-- The number that begins at a place, as the document's own function reckons it: digit by digit, from k on. -/
theorem rf_below_step (l : By) (u d : Nat) (hu : u ≤ 9223372036854775808) (hd : d ≤ 9) : (-(u : Int) < -((9223372036854775808 - (d : Int)) / 10)) ↔ (9223372036854775808 - d) / 10 < u := by omega
end Go.Proofs.Ytgiofdmedhhobaa

namespace Go.Proofs.Ytgiofdmedhhobaa
open Go.RowKit
set_option linter.unusedVariables false

theorem sxDigits_at (l : By) (k : Nat) (c : UInt8) (h : l[k]? = some c) (hr : k < sxRun sxDigit l) : (sxDigits l)[k]? = some c := by
  unfold sxDigits
  rw [List.getElem?_take, if_pos hr, h]
/-- What is known of the digits that have been read. -/
def NumSt (D : By) (k u : Nat) (fine : Bool) : Prop := if fine then sxBelow D 0 = sxBelow (D.drop k) (-(u : Int)) ∧ u ≤ 9223372036854775808 else sxBelow D 0 = none

theorem u64w (x : Int) : ∃ n : Nat, IntKind.u64.wrap x = (n : Int) ∧ n < 18446744073709551616 := ⟨(x % 18446744073709551616).toNat, by simp [IntKind.wrap, IntKind.signed, IntKind.bits]; omega, by omega⟩
theorem u64neg {u : Nat} (h : u ≤ 9223372036854775808) : wrap64 (IntKind.u64.wrap (-(u : Int))) = -(u : Int) := by
  simp [IntKind.wrap, IntKind.signed, IntKind.bits, wrap64]
  omega
theorem NumSt.bad {D : By} {k u u' d : Nat} {fine : Bool} (h : NumSt D k u fine) (hs : ∀ m : Int, sxBelow (D.drop k) m = if m < -((9223372036854775808 - (d : Int)) / 10) then none else sxBelow (D.drop (k + 1)) (m * 10 - (d : Int))) (ht : (9223372036854775808 - (d : Int)) / 10 < (u : Int)) : NumSt D (k + 1) u' false := by
  unfold NumSt at h ⊢
  simp only [Bool.false_eq_true, if_false]
  cases fine
  · exact h
  · rw [h.1, hs, if_pos (by omega)]
theorem NumSt.good {D : By} {k u d : Nat} {fine : Bool} (h : NumSt D k u fine) (hs : ∀ m : Int, sxBelow (D.drop k) m = if m < -((9223372036854775808 - (d : Int)) / 10) then none else sxBelow (D.drop (k + 1)) (m * 10 - (d : Int))) (hd : d ≤ 9) (ht : ¬ (9223372036854775808 - (d : Int)) / 10 < (u : Int)) : NumSt D (k + 1) (u * 10 + d) fine := by
  unfold NumSt at h ⊢
  cases fine
  · exact h
  · simp only [if_true] at h ⊢
    refine ⟨?_, by omega⟩
    rw [h.1, hs, if_neg (by omega), show (-(u : Int)) * 10 - (d : Int) = -((u * 10 + d : Nat) : Int) by omega]
/-- What comes of the digits. -/
theorem NumSt.out {D : By} {u : Nat} {fine : Bool} (h : NumSt D D.length u fine) (plus : Bool) : (D.length = 0 ∨ fine = false ∨ 9223372036854775808 < u ∨ (plus = true ∧ 9223372036854775807 < u)) → sxNum plus D = sxWrong 12 0 := by
  intro hc
  unfold NumSt at h
  unfold sxNum
  cases fine
  · simp only [Bool.false_eq_true, if_false] at h
    rw [h]
  · simp only [if_true] at h
    obtain ⟨h1, h2⟩ := h
    rw [List.drop_of_length_le (Nat.le_refl _)] at h1
    rw [h1]
    simp only [sxBelow]
    rcases hc with hc | hc | hc | ⟨hc, hu⟩
    · rw [List.eq_nil_of_length_eq_zero hc]; rfl
    · cases hc
    · omega
    · rw [if_pos]
      have : u = 9223372036854775808 := by omega
      subst this
      subst hc
      simp
theorem NumSt.fit {D : By} {u : Nat} (h : NumSt D D.length u true) (plus : Bool) (hk : D.length ≠ 0) (hu : plus = true → u ≤ 9223372036854775807) : u ≤ 9223372036854775808 ∧ sxNum plus D = if plus then ⟨3, [], (u : Int), D.length, 0, 0⟩ else ⟨3, [], -(u : Int), 1 + D.length, 0, 0⟩ := by
  unfold NumSt at h
  simp only [if_true] at h
  obtain ⟨h1, h2⟩ := h
  refine ⟨h2, ?_⟩
  rw [List.drop_of_length_le (Nat.le_refl _)] at h1
  unfold sxNum
  rw [h1]
  simp only [sxBelow]
  have he : D.isEmpty = false := by
    cases D with
    | nil => exact absurd rfl hk
    | cons a l => rfl
  cases plus
  · simp [he]
  · have := hu rfl
    rw [if_neg (by rw [he]; simp; omega)]
    simp

set_option maxRecDepth 100000 in
set_option maxHeartbeats 4000000 in
theorem rf_number_ (s : ByteArray) (w : World) (hs : s.size ≤ 100000) (i from_ : Nat) (c0 : UInt8) (hi : i < s.size) (hc0 : s.data.toList[i]? = some c0) (minus : Bool) (hm : (c0.toNat == 45) = minus) (hf : from_ = if minus then i + 1 else i) :
    Calls Try.prog 44 #[.string s, .int .i64 (i : Int)] w fun e w' =>
      ∃ j : Nat, e = .returned (.tuple #[.int .i64 (sxNum (!minus) (sxDigits (s.data.toList.drop from_))).n, .int .i64 (j : Int), .bool ((sxNum (!minus) (sxDigits (s.data.toList.drop from_))).why == 0)]) ∧
        ((sxNum (!minus) (sxDigits (s.data.toList.drop from_))).why = 0 → j = i + (sxNum (!minus) (sxDigits (s.data.toList.drop from_))).size) ∧ Ev w w' := by
  have hll : s.data.toList.length = s.size := by rw [Array.length_toList]; rfl
  have HL := Lib.hid hll
  have hidx : ∀ hh, s[i]'hh = c0 := fun hh => by
    have := sx_at s i hh
    rw [this] at hc0
    exact Option.some.inj hc0
  have hfs : from_ ≤ s.size := by rw [hf]; split <;> omega
  have hDl := sxDigits_len (s.data.toList.drop from_)
  have hDa := sxDigits_all (s.data.toList.drop from_)
  have hDat := fun k c h hr => sxDigits_at (s.data.toList.drop from_) k c h hr
  have hDr := sxRun_le sxDigit (s.data.toList.drop from_)
  rw [List.length_drop, hll] at hDr
  have HRun : Hid (∀ k, sxRun sxDigit ((s.data.toList.drop from_).drop k) = sxRun sxDigit (s.data.toList.drop (from_ + k))) := Lib.hid fun k => by rw [List.drop_drop]
  generalize hD : sxDigits (s.data.toList.drop from_) = D at *
  rw [← hDl] at hDr hDat
  have HDl := Lib.hid hDl
  have HDa := Lib.hid hDa
  have HDat := Lib.hid hDat
  have HDig := Lib.hid rf_digit
  clear hc0 hD hDl hDa hDat hll
  cases minus
  · obtain rfl : from_ = i := hf
    have e1 : ¬ ((c0.toNat : Int) = 45) := by have := beq_eq_false_iff_ne.1 hm; omega
    have e1' : ((c0.toNat : Int) == 45) = false := beq_eq_false_iff_ne.2 e1
    have hi0 : (0 : Int) ≤ (from_ : Int) := by omega
    clear hm
    simp only [Bool.not_false]
    go_enter Try.func44, Try.ntmps44
    go_wp2
    go_loop [7, 9, 10] (fun iv uv fv => ∃ (k u : Nat) (fine : Bool), k ≤ D.length ∧ iv = .int .i64 ((from_ + k : Nat) : Int) ∧ uv = .int .u64 (u : Int) ∧ fv = .bool fine ∧ u < 18446744073709551616 ∧ Hid (NumSt D k u fine) ∧ Hid (sxRun sxDigit (s.data.toList.drop (from_ + k)) + k = D.length)) (fun iv _ _ => s.size - (intOf iv).toNat)
    case atStart => exact ⟨0, 0, true, Nat.zero_le _, rfl, rfl, rfl, by omega, Lib.hid ⟨rfl, by omega⟩, Lib.hid (by rw [HDl.out]; rfl)⟩
    case round =>
      obtain ⟨k, u, fine, hk, rfl, rfl, rfl, hu, HN, HK⟩ := hrel
      obtain ⟨j, hj⟩ : ∃ j, j = from_ + k := ⟨_, rfl⟩
      rw [← hj] at HK ⊢
      have hjb : j ≤ 300000 := by have := hDr; omega
      have HJ := Lib.hid hj
      clear hj
      by_cases hlt : j < s.size
      · have hat := sx_at s j hlt
        obtain ⟨c, hc⟩ : ∃ c, s[j] = c := ⟨_, rfl⟩
        have hidx2 : ∀ hh, s[j]'hh = c := fun _ => hc
        rw [hc] at hat
        have hst := sxRun_step sxDigit s.data.toList j c hat
        have HC := HDig.out c
        have hj0 : (0 : Int) ≤ (j : Int) := by omega
        have hj1 : (j : Int) < (s.size : Int) := by omega
        cases hdg : sxDigit c
        · rw [hdg] at HC hst
          simp only [Bool.false_eq_true, if_false] at hst
          have hkD : k = D.length := by have := HK.out; rw [hst] at this; omega
          have HC := Lib.hid HC
          obtain rfl : k = D.length := hkD
          have HNN := HN.out
          by_cases hz : D.length = 0
          · have HX : Hid (sxNum true D = sxWrong 12 0) := Lib.hid (HNN.out true (.inl hz))
            have ej : j = from_ := by rw [HJ.out, hz]; rfl
            have HZ := Lib.hid hz
            clear hz HNN
            subst ej
            go_wp2_with (first | ((with_reducible refine (HC.out _).mono ?_); rintro x w1 ⟨rfl, rfl⟩))
            go_ret3
            exact ⟨j, by rw [HX.out]; rfl, fun h => (by rw [HX.out] at h; cases h), Ev.refl _⟩
          · have ej : ¬ ((j : Int) = (from_ : Int)) := by rw [HJ.out]; omega
            have ej' : ((j : Int) == (from_ : Int)) = false := beq_eq_false_iff_ne.2 ej
            cases fine
            · have HX : Hid (sxNum true D = sxWrong 12 0) := Lib.hid (HNN.out true (.inr (.inl rfl)))
              clear HNN
              go_wp2_with (first | ((with_reducible refine (HC.out _).mono ?_); rintro x w1 ⟨rfl, rfl⟩))
              go_ret3
              exact ⟨j, by rw [HX.out]; rfl, fun h => (by rw [HX.out] at h; cases h), Ev.refl _⟩
            · by_cases hbig : 9223372036854775807 < u
              · have HX : Hid (sxNum true D = sxWrong 12 0) := Lib.hid (HNN.out true (.inr (.inr (.inr ⟨rfl, hbig⟩))))
                have hb2 : (9223372036854775807 : Int) < (u : Int) := by omega
                clear HNN
                go_wp2_with (first | ((with_reducible refine (HC.out _).mono ?_); rintro x w1 ⟨rfl, rfl⟩))
                go_ret3
                exact ⟨j, by rw [HX.out]; rfl, fun h => (by rw [HX.out] at h; cases h), Ev.refl _⟩
              · obtain ⟨hu3, hX⟩ := HNN.fit true hz (fun _ => by omega)
                have HX := Lib.hid hX
                have hb2 : ¬ ((9223372036854775807 : Int) < (u : Int)) := by omega
                have hb3 : ¬ ((9223372036854775808 : Int) < (u : Int)) := by omega
                clear HNN hX
                go_wp2_with (first | ((with_reducible refine (HC.out _).mono ?_); rintro x w1 ⟨rfl, rfl⟩))
                go_ret3
                exact ⟨j, by rw [HX.out]; rfl, fun _ => (by rw [HX.out, HJ.out]; rfl), Ev.refl _⟩
        · rw [hdg] at HC hst
          simp only [if_true] at hst
          have HC := Lib.hid HC
          have hk1 : k < D.length := by have := HK.out; rw [hst] at this; omega
          have HK2 : Hid (sxRun sxDigit (s.data.toList.drop (j + 1)) + (k + 1) = D.length) := Lib.hid (by have := HK.out; rw [hst] at this; omega)
          have hDc := HDat.out k c (by rw [List.getElem?_drop, ← HJ.out]; exact hat) hk1
          obtain ⟨d, hd, hd9⟩ : ∃ d : Nat, (c.toNat : Int) = 48 + (d : Int) ∧ d ≤ 9 := by
            unfold sxDigit at hdg
            simp at hdg
            exact ⟨c.toNat - 48, by omega, by omega⟩
          have hstep := fun m => sxBelow_step D k c m hDc
          have i0 : (48 : Int) + (d : Int) - 48 = (d : Int) := by omega
          rw [hd] at hstep HC
          rw [i0] at hstep
          have i1 : IntKind.u8.wrap ((48 : Int) + (d : Int) - 48) = (d : Int) := by rw [i0]; exact IntWalk.u8_in _ (by omega)
          have HST := Lib.hid hstep
          clear hstep hst hc hat hdg hDc
          go_wp2_with (first | ((with_reducible refine (HC.out _).mono ?_); rintro x w1 ⟨rfl, rfl⟩))
          · obtain ⟨u', hu', hu2⟩ := u64w (IntKind.u64.wrap ((u : Int) * 10) + (d : Int))
            go_round
            case rel => exact ⟨k + 1, u', false, by omega, by rw [HJ.out]; go_num, by rw [hu'], rfl, hu2, Lib.hid (HN.out.bad HST.out (by omega)), by rw [show from_ + (k + 1) = j + 1 by rw [HJ.out]; omega]; exact HK2⟩
            case measure => simp [intOf]; omega
          · go_round
            case rel => exact ⟨k + 1, u * 10 + d, fine, by omega, by rw [HJ.out]; go_num, by go_num, rfl, by omega, Lib.hid (HN.out.good HST.out hd9 (by omega)), by rw [show from_ + (k + 1) = j + 1 by rw [HJ.out]; omega]; exact HK2⟩
            case measure => simp [intOf]; omega
      · have hjs : j = s.size := by
          have := sxRun_le sxDigit (s.data.toList.drop j)
          rw [List.length_drop, HL.out] at this
          have h2 := HK.out
          have h3 := HJ.out
          omega
        have hkD : k = D.length := by
          have := HK.out
          rw [List.drop_of_length_le (by rw [HL.out]; omega)] at this
          simp only [sxRun] at this
          omega
        have hlt2 : ¬ ((j : Int) < (s.size : Int)) := by omega
        clear hjs
        obtain rfl : k = D.length := hkD
        have HNN := HN.out
        by_cases hz : D.length = 0
        · have HX : Hid (sxNum true D = sxWrong 12 0) := Lib.hid (HNN.out true (.inl hz))
          have ej : j = from_ := by rw [HJ.out, hz]; rfl
          have HZ := Lib.hid hz
          clear hz HNN
          subst ej
          go_wp2
          go_ret3
          exact ⟨j, by rw [HX.out]; rfl, fun h => (by rw [HX.out] at h; cases h), Ev.refl _⟩
        · have ej : ¬ ((j : Int) = (from_ : Int)) := by rw [HJ.out]; omega
          have ej' : ((j : Int) == (from_ : Int)) = false := beq_eq_false_iff_ne.2 ej
          cases fine
          · have HX : Hid (sxNum true D = sxWrong 12 0) := Lib.hid (HNN.out true (.inr (.inl rfl)))
            clear HNN
            go_wp2
            go_ret3
            exact ⟨j, by rw [HX.out]; rfl, fun h => (by rw [HX.out] at h; cases h), Ev.refl _⟩
          · by_cases hbig : 9223372036854775807 < u
            · have HX : Hid (sxNum true D = sxWrong 12 0) := Lib.hid (HNN.out true (.inr (.inr (.inr ⟨rfl, hbig⟩))))
              have hb2 : (9223372036854775807 : Int) < (u : Int) := by omega
              clear HNN
              go_wp2
              go_ret3
              exact ⟨j, by rw [HX.out]; rfl, fun h => (by rw [HX.out] at h; cases h), Ev.refl _⟩
            · obtain ⟨hu3, hX⟩ := HNN.fit true hz (fun _ => by omega)
              have HX := Lib.hid hX
              have hb2 : ¬ ((9223372036854775807 : Int) < (u : Int)) := by omega
              have hb3 : ¬ ((9223372036854775808 : Int) < (u : Int)) := by omega
              clear HNN hX
              go_wp2
              go_ret3
              exact ⟨j, by rw [HX.out]; rfl, fun _ => (by rw [HX.out, HJ.out]; rfl), Ev.refl _⟩
  · have hf' : from_ = i + 1 := hf
    have HF := Lib.hid hf'
    have e1 : (c0.toNat : Int) = 45 := by have := beq_iff_eq.1 hm; omega
    have hi0 : (0 : Int) ≤ (i : Int) := by omega
    have hi1 : (i : Int) + 1 = (from_ : Int) := by omega
    clear hf hf'
    clear hm
    simp only [Bool.not_true]
    go_enter Try.func44, Try.ntmps44
    go_wp2
    go_loop [7, 9, 10] (fun iv uv fv => ∃ (k u : Nat) (fine : Bool), k ≤ D.length ∧ iv = .int .i64 ((from_ + k : Nat) : Int) ∧ uv = .int .u64 (u : Int) ∧ fv = .bool fine ∧ u < 18446744073709551616 ∧ Hid (NumSt D k u fine) ∧ Hid (sxRun sxDigit (s.data.toList.drop (from_ + k)) + k = D.length)) (fun iv _ _ => s.size - (intOf iv).toNat)
    case atStart => exact ⟨0, 0, true, Nat.zero_le _, rfl, rfl, rfl, by omega, Lib.hid ⟨rfl, by omega⟩, Lib.hid (by rw [HDl.out]; rfl)⟩
    case round =>
      obtain ⟨k, u, fine, hk, rfl, rfl, rfl, hu, HN, HK⟩ := hrel
      obtain ⟨j, hj⟩ : ∃ j, j = from_ + k := ⟨_, rfl⟩
      rw [← hj] at HK ⊢
      have hjb : j ≤ 300000 := by have := hDr; omega
      have HJ := Lib.hid hj
      clear hj
      by_cases hlt : j < s.size
      · have hat := sx_at s j hlt
        obtain ⟨c, hc⟩ : ∃ c, s[j] = c := ⟨_, rfl⟩
        have hidx2 : ∀ hh, s[j]'hh = c := fun _ => hc
        rw [hc] at hat
        have hst := sxRun_step sxDigit s.data.toList j c hat
        have HC := HDig.out c
        have hj0 : (0 : Int) ≤ (j : Int) := by omega
        have hj1 : (j : Int) < (s.size : Int) := by omega
        cases hdg : sxDigit c
        · rw [hdg] at HC hst
          simp only [Bool.false_eq_true, if_false] at hst
          have hkD : k = D.length := by have := HK.out; rw [hst] at this; omega
          have HC := Lib.hid HC
          obtain rfl : k = D.length := hkD
          have HNN := HN.out
          by_cases hz : D.length = 0
          · have HX : Hid (sxNum false D = sxWrong 12 0) := Lib.hid (HNN.out false (.inl hz))
            have ej : j = from_ := by rw [HJ.out, hz]; rfl
            have HZ := Lib.hid hz
            clear hz HNN
            subst ej
            go_wp2_with (first | ((with_reducible refine (HC.out _).mono ?_); rintro x w1 ⟨rfl, rfl⟩))
            go_ret3
            exact ⟨j, by rw [HX.out]; rfl, fun h => (by rw [HX.out] at h; cases h), Ev.refl _⟩
          · have ej : ¬ ((j : Int) = (from_ : Int)) := by rw [HJ.out]; omega
            have ej' : ((j : Int) == (from_ : Int)) = false := beq_eq_false_iff_ne.2 ej
            cases fine
            · have HX : Hid (sxNum false D = sxWrong 12 0) := Lib.hid (HNN.out false (.inr (.inl rfl)))
              clear HNN
              go_wp2_with (first | ((with_reducible refine (HC.out _).mono ?_); rintro x w1 ⟨rfl, rfl⟩))
              go_ret3
              exact ⟨j, by rw [HX.out]; rfl, fun h => (by rw [HX.out] at h; cases h), Ev.refl _⟩
            · obtain ⟨hu3, hX⟩ := HNN.fit false hz (fun h => by cases h); have HNG := Lib.hid (u64neg hu3)
              have HX := Lib.hid hX
              have hb3 : ¬ ((9223372036854775808 : Int) < (u : Int)) := by omega
              clear HNN hX
              go_wp2_with (first | ((with_reducible refine (HC.out _).mono ?_); rintro x w1 ⟨rfl, rfl⟩))
              go_ret3
              exact ⟨j, (by rw [HX.out]; exact congrArg (fun x => Ending.returned (Value.tuple #[Value.int .i64 x, Value.int .i64 (j : Int), Value.bool true])) HNG.out), fun _ => (by rw [HX.out, HJ.out, HF.out]; simp only [Bool.false_eq_true, if_false]; omega), Ev.refl _⟩
        · rw [hdg] at HC hst
          simp only [if_true] at hst
          have HC := Lib.hid HC
          have hk1 : k < D.length := by have := HK.out; rw [hst] at this; omega
          have HK2 : Hid (sxRun sxDigit (s.data.toList.drop (j + 1)) + (k + 1) = D.length) := Lib.hid (by have := HK.out; rw [hst] at this; omega)
          have hDc := HDat.out k c (by rw [List.getElem?_drop, ← HJ.out]; exact hat) hk1
          obtain ⟨d, hd, hd9⟩ : ∃ d : Nat, (c.toNat : Int) = 48 + (d : Int) ∧ d ≤ 9 := by
            unfold sxDigit at hdg
            simp at hdg
            exact ⟨c.toNat - 48, by omega, by omega⟩
          have hstep := fun m => sxBelow_step D k c m hDc
          have i0 : (48 : Int) + (d : Int) - 48 = (d : Int) := by omega
          rw [hd] at hstep HC
          rw [i0] at hstep
          have i1 : IntKind.u8.wrap ((48 : Int) + (d : Int) - 48) = (d : Int) := by rw [i0]; exact IntWalk.u8_in _ (by omega)
          have HST := Lib.hid hstep
          clear hstep hst hc hat hdg hDc
          go_wp2_with (first | ((with_reducible refine (HC.out _).mono ?_); rintro x w1 ⟨rfl, rfl⟩))
          · obtain ⟨u', hu', hu2⟩ := u64w (IntKind.u64.wrap ((u : Int) * 10) + (d : Int))
            go_round
            case rel => exact ⟨k + 1, u', false, by omega, by rw [HJ.out]; go_num, by rw [hu'], rfl, hu2, Lib.hid (HN.out.bad HST.out (by omega)), by rw [show from_ + (k + 1) = j + 1 by rw [HJ.out]; omega]; exact HK2⟩
            case measure => simp [intOf]; omega
          · go_round
            case rel => exact ⟨k + 1, u * 10 + d, fine, by omega, by rw [HJ.out]; go_num, by go_num, rfl, by omega, Lib.hid (HN.out.good HST.out hd9 (by omega)), by rw [show from_ + (k + 1) = j + 1 by rw [HJ.out]; omega]; exact HK2⟩
            case measure => simp [intOf]; omega
      · have hjs : j = s.size := by
          have := sxRun_le sxDigit (s.data.toList.drop j)
          rw [List.length_drop, HL.out] at this
          have h2 := HK.out
          have h3 := HJ.out
          omega
        have hkD : k = D.length := by
          have := HK.out
          rw [List.drop_of_length_le (by rw [HL.out]; omega)] at this
          simp only [sxRun] at this
          omega
        have hlt2 : ¬ ((j : Int) < (s.size : Int)) := by omega
        clear hjs
        obtain rfl : k = D.length := hkD
        have HNN := HN.out
        by_cases hz : D.length = 0
        · have HX : Hid (sxNum false D = sxWrong 12 0) := Lib.hid (HNN.out false (.inl hz))
          have ej : j = from_ := by rw [HJ.out, hz]; rfl
          have HZ := Lib.hid hz
          clear hz HNN
          subst ej
          go_wp2
          go_ret3
          exact ⟨j, by rw [HX.out]; rfl, fun h => (by rw [HX.out] at h; cases h), Ev.refl _⟩
        · have ej : ¬ ((j : Int) = (from_ : Int)) := by rw [HJ.out]; omega
          have ej' : ((j : Int) == (from_ : Int)) = false := beq_eq_false_iff_ne.2 ej
          cases fine
          · have HX : Hid (sxNum false D = sxWrong 12 0) := Lib.hid (HNN.out false (.inr (.inl rfl)))
            clear HNN
            go_wp2
            go_ret3
            exact ⟨j, by rw [HX.out]; rfl, fun h => (by rw [HX.out] at h; cases h), Ev.refl _⟩
          · obtain ⟨hu3, hX⟩ := HNN.fit false hz (fun h => by cases h); have HNG := Lib.hid (u64neg hu3)
            have HX := Lib.hid hX
            have hb3 : ¬ ((9223372036854775808 : Int) < (u : Int)) := by omega
            clear HNN hX
            go_wp2
            go_ret3
            exact ⟨j, (by rw [HX.out]; exact congrArg (fun x => Ending.returned (Value.tuple #[Value.int .i64 x, Value.int .i64 (j : Int), Value.bool true])) HNG.out), fun _ => (by rw [HX.out, HJ.out, HF.out]; simp only [Bool.false_eq_true, if_false]; omega), Ev.refl _⟩
end Go.Proofs.Ytgiofdmedhhobaa

namespace Go.Proofs.Ytgiofdmedhhobaa
open Go.RowKit
set_option linter.unusedVariables false

theorem sx_dropped {l : By} {i : Nat} {c : UInt8} (h : l[i]? = some c) : l.drop i = c :: l.drop (i + 1) := by
  obtain ⟨hi, e⟩ := List.getElem?_eq_some_iff.1 h
  rw [List.drop_eq_getElem_cons hi, e]

theorem rf_number (s : ByteArray) (w : World) (hs : s.size ≤ 100000) (i : Nat) (c0 : UInt8) (hi : i < s.size) (hc0 : s.data.toList[i]? = some c0) :
    Calls Try.prog 44 #[.string s, .int .i64 (i : Int)] w fun e w' =>
      ∃ j : Nat, e = .returned (.tuple #[.int .i64 (sxNumber (s.data.toList.drop i)).n, .int .i64 (j : Int), .bool ((sxNumber (s.data.toList.drop i)).why == 0)]) ∧
        ((sxNumber (s.data.toList.drop i)).why = 0 → j = i + (sxNumber (s.data.toList.drop i)).size) ∧ Ev w w' := by
  have hd := sx_dropped hc0
  cases hm : (c0.toNat == 45) with
  | true =>
    have := rf_number_ s w hs i (i + 1) c0 hi hc0 true hm rfl
    have e : sxNumber (s.data.toList.drop i) = sxNum (!true) (sxDigits (s.data.toList.drop (i + 1))) := by rw [hd]; simp only [sxNumber, hm, if_true]; rfl
    rw [e]; exact this
  | false =>
    have := rf_number_ s w hs i i c0 hi hc0 false hm rfl
    have e : sxNumber (s.data.toList.drop i) = sxNum (!false) (sxDigits (s.data.toList.drop i)) := by rw [hd]; simp only [sxNumber, hm]; rfl
    rw [e]; exact this
end Go.Proofs.Ytgiofdmedhhobaa

namespace Go.Proofs.Ytgiofdmedhhobaa
open Go.RowKit
set_option linter.unusedVariables false

/-- A call of a Go function that turns nothing, as one step of a region. -/
theorem step_call {P : Program} {ops : Array Oper} {o : Oper} {a : Act} {w : World} {K : Act → World → Prop} {Q : Exit → Act → World → Prop} {E : Prop}
    (hg : o.guard = none) (f : FuncId) (xs : Array Operand) (ts : Array TypeId) (hop : o.op = .call { callee := .value (.func f), args := xs, argTypes := ts }) (hb : bodied P f = true) (args : Array Value) (ha : xs.map a.eval = args) (v : Value)
    (hc : Calls P f args w fun e w' => e = .returned v ∧ w = w') (hK : K (a.put o.dst v) w) :
    if Region.wanted o (yielded ops a.tmps) = true then Oper.wp P o a w K Q else E := by
  rw [if_pos (wanted_plain hg)]
  unfold Oper.wp
  rw [run_call f xs ts hop hb w, ha]
  refine hc.mono ?_
  rintro e w' ⟨rfl, rfl⟩
  exact hK
/-- append of one byte onto an own row, as one step of a region. -/
theorem step_append_byte {P : Program} {ops : Array Oper} {o : Oper} {a : Act} {w : World} {K : Act → World → Prop} {Q : Exit → Act → World → Prop} {E : Prop}
    (hg : o.guard = none) (s x : Operand) (hop : o.op = .call { callee := .builtin .append, args := #[s, x], argTypes := #[101, 101] })
    (ht : P.underlying 101 = some (.slice 5)) (hi : (P.info? 5).map (fun i => (i.zero, i.size, i.bytes)) = some (some (.int .u8 0), 1, 1))
    (v : Value) (l : By) (hs : a.eval s = v) (hown : Row w v l) (A : Option Addr) (m c : Nat) (l' : By) (hx : a.eval x = .slice A m c) (hB : Bs w A m c l') (hbytes : l.length + l'.length ≤ 140737488355328)
    (hK : ∀ v' w', Row w' v' (l ++ l') → But (foot v) w w' → Sprung w v v' → K (a.put o.dst v') w') :
    if Region.wanted o (yielded ops a.tmps) = true then Oper.wp P o a w K Q else E := by
  rw [if_pos (wanted_plain hg)]
  obtain ⟨v', w', hr, h2, h3, h4⟩ := run_append_row (P := P) (w := w) o.type ht hi v l hown A m c l' hB hbytes
  unfold Oper.wp execOp
  simp only [hop, resolve, invoke, builtin, Sem.run_bind, Sem.run_pure, Result.andThen_ok, List.map_toArray, List.map_cons, List.map_nil, hs, hx, hr]
  exact hK _ _ h2 h3 h4

theorem results_tmp4 {fn : Func} {t u v x : Tmp} (h : fn.results = #[.tmp t, .tmp u, .tmp v, .tmp x]) (tmps : Array Value) (P : Program) (w : World) :
    (results fn tmps).run P w = .ok (.tuple #[tmps.getD t undef, tmps.getD u undef, tmps.getD v undef, tmps.getD x undef]) w := by
  simp [results, h]
/-- What text gives, beside the error's number. -/
structure TxOut (Y : Tk) (i0 : Nat) (sb : ByteArray) (en wh : Int) : Prop where
  ok : Y.why = 0 → sb = ⟨Y.s.toArray⟩ ∧ en = ((i0 + Y.size : Nat) : Int)
  bad : Y.why ≠ 0 → wh = ((i0 + Y.fault : Nat) : Int)
/-- The bytes that are gathered. -/
structure OutSt (w0 : World) (A : Option Addr) (n cap : Nat) (b : By) (w : World) : Prop where
  row : Row w (.slice A n cap) b
  len : b.length = n
  high : ∀ k, (Value.slice A n cap).ownBlock = some k → w0.heap.size ≤ k
  ev : Ev w0 w
theorem OutSt.step {w0 w w1 : World} {A : Option Addr} {n cap : Nat} {b B1 : By} {v1 : Value} (h : OutSt w0 A n cap b w) (hr : Row w1 v1 B1) (hb : But (foot (.slice A n cap)) w w1) (hs : Sprung w (.slice A n cap) v1) :
    ∃ A1 n1 cap1, v1 = .slice A1 n1 cap1 ∧ OutSt w0 A1 n1 cap1 B1 w1 := by
  obtain ⟨A1, cap1, rfl, _, _, _⟩ := hr.bs
  refine ⟨A1, _, cap1, rfl, hr, rfl, fun k hk => ?_, ((But.of_ev (K := foot (.slice A n cap)) h.ev).then hb).ev fun k hk => h.high k (mem_foot.1 hk)⟩
  rcases hs k hk with h1 | h1
  · exact h.high k h1
  · have := h.ev.size; omega
theorem OutSt.evs {w0 w w1 : World} {A : Option Addr} {n cap : Nat} {b : By} (h : OutSt w0 A n cap b w) (hE : Ev w w1) : OutSt w0 A n cap b w1 := ⟨h.row.ev hE, h.len, h.high, h.ev.trans hE⟩
theorem OutSt.init (w : World) : OutSt w (some ⟨w.heap.size, 0, none⟩) 0 0 [] (w.alloc (.cells #[] 5)) :=
  ⟨⟨rfl, .inr ⟨w.heap.size, 0, #[], rfl, Nat.zero_le _, heap_alloc_new w _, Nat.le_refl _, by decide, rfl, rfl⟩⟩, rfl, by simp [Value.ownBlock], Ev.alloc _ _⟩
theorem rf_escape (b : By) (c x y : UInt8) (q : By) (i ha hb : Nat) (hc : c.toNat = 92) (hx : sxHex x = some ha) (hy : sxHex y = some hb) : sxTextGo b (c :: x :: y :: q) i = sxTextGo (b ++ [UInt8.ofNat (16 * ha + hb)]) q (i + 3) := by
  conv => lhs; unfold sxTextGo
  have hp : sxPlain c = false := by unfold sxPlain; rw [hc]; rfl
  simp [hp, hc, hx, hy]
theorem rf_byte {a b : Nat} (ha : a < 16) (hb : b < 16) : IntKind.u8.wrap (16 * (a : Int) + (b : Int)) = ((UInt8.ofNat (16 * a + b)).toNat : Int) := by
  rw [IntWalk.u8_in _ (by omega), UInt8.toNat_ofNat']
  omega

set_option maxRecDepth 100000 in
set_option maxHeartbeats 4000000 in
theorem rf_text (s : ByteArray) (w : World) (hs : s.size ≤ 100000) (i0 : Nat) (hi : i0 < s.size) :
    Calls Try.prog 43 #[.string s, .int .i64 (i0 : Int)] w fun e w' =>
      ∃ (sb : ByteArray) (en wh : Int), e = .returned (.tuple #[.string sb, .int .i64 en, .int .i64 (sxTextGo [] (s.data.toList.drop (i0 + 1)) 1).why, .int .i64 wh]) ∧
        TxOut (sxTextGo [] (s.data.toList.drop (i0 + 1)) 1) i0 sb en wh ∧ Ev w w' := by
  have hll : s.data.toList.length = s.size := by rw [Array.length_toList]; rfl
  obtain ⟨Y, hY⟩ : ∃ Y, Y = sxTextGo [] (s.data.toList.drop (i0 + 1)) 1 := ⟨_, rfl⟩
  rw [← hY]
  have HY := Lib.hid hY
  have HL := Lib.hid hll
  have HH := Lib.hid rf_hex
  clear hY hll
  go_enter Try.func43, Try.ntmps43
  go_wp2
  go_loopw [8, 9] (fun ov iv wr => ∃ (b : By) (A : Option Addr) (n cap j : Nat), ov = .slice A n cap ∧ iv = .int .i64 (j : Int) ∧ i0 + 1 ≤ j ∧ j ≤ s.size ∧ n ≤ j ∧ OutSt w A n cap b wr ∧ Hid (Y = sxTextGo b (s.data.toList.drop j) (j - i0))) (fun _ iv _ => s.size - (intOf iv).toNat)
  case atStart => exact ⟨[], _, 0, 0, i0 + 1, rfl, by go_num, Nat.le_refl _, hi, by omega, OutSt.init w, Lib.hid (by rw [show i0 + 1 - i0 = 1 by omega]; exact HY.out)⟩
  case round =>
    obtain ⟨b, A, n, cap, j, rfl, rfl, hj0, hj, hnj, ST, HG⟩ := hrel
    by_cases hlt : j < s.size
    · have hat := sx_at s j hlt
      obtain ⟨c, hc⟩ : ∃ c, s[j] = c := ⟨_, rfl⟩
      have hidx2 : ∀ hh, s[j]'hh = c := fun _ => hc
      rw [hc] at hat
      have hdr := sx_dropped hat
      have g0 : (0 : Int) ≤ (j : Int) := by omega
      have g1 : (j : Int) < (s.size : Int) := by omega
      have g2 : ¬ ((s.size : Int) ≤ (j : Int)) := by omega
      have HLN := Lib.hid ST.len
      have HG1 := HG.out
      rw [hdr] at HG1
      clear hc HG hdr
      by_cases h34 : c.toNat = 34
      · have e34 : (c.toNat : Int) = 34 := by omega
        have hp : sxPlain c = false := by unfold sxPlain; rw [h34]; rfl
        unfold sxTextGo at HG1
        simp [hp, h34, HLN.out] at HG1
        by_cases h40 : 40 < n
        · rw [if_pos h40] at HG1
          have HG2 := Lib.hid HG1
          have e40 : (40 : Int) < (n : Int) := by omega
          clear HG1
          go_wp2
          (try simp only [Exit.inBlock, Exit.then]); refine bodyPost_ret (results_tmp4 rfl _ _ _) rfl ?_
          exact ⟨_, _, _, by rw [HG2.out]; rfl, ⟨(fun h => by rw [HG2.out] at h; cases h), (fun _ => by rw [HG2.out]; rfl)⟩, ST.ev⟩
        · rw [if_neg h40] at HG1
          have HG2 := Lib.hid HG1
          have e40 : ¬ ((40 : Int) < (n : Int)) := by omega
          obtain ⟨A1', cap1', hv, hbs, _, _⟩ := ST.row.bs
          rw [HLN.out] at hv hbs
          injection hv with hv1 hv2 hv3
          subst hv1
          subst hv3
          have hcv := hbs.str 101 9 5 Try.underlying101 Try.underlying5 Try.underlying9
          clear HG1 hv2
          go_wp2
          (try simp only [Exit.inBlock, Exit.then]); refine bodyPost_ret (results_tmp4 rfl _ _ _) rfl ?_
          have hsz : ((i0 + (j - i0 + 1) : Nat) : Int) = (j : Int) + 1 := by omega
          exact ⟨_, _, _, by rw [HG2.out]; rfl, ⟨(fun _ => by rw [HG2.out]; exact ⟨rfl, hsz.symm⟩), (fun h => by rw [HG2.out] at h; exact absurd rfl h)⟩, ST.ev⟩
      · have e34 : ¬ ((c.toNat : Int) = 34) := by omega
        have e34' : ((c.toNat : Int) == 34) = false := beq_eq_false_iff_ne.2 e34
        by_cases h32 : c.toNat < 32
        · have e32 : (c.toNat : Int) < 32 := by omega
          have hp : sxPlain c = false := by unfold sxPlain; rw [decide_eq_false (show ¬ 32 ≤ c.toNat by omega)]; rfl
          have h92 : ¬ (c.toNat = 92) := by omega
          unfold sxTextGo at HG1
          simp [hp, h34, h92] at HG1
          have HG2 := Lib.hid HG1
          clear HG1
          go_wp2
          (try simp only [Exit.inBlock, Exit.then]); refine bodyPost_ret (results_tmp4 rfl _ _ _) rfl ?_
          exact ⟨_, _, _, by rw [HG2.out]; rfl, ⟨(fun h => by rw [HG2.out] at h; cases h), (fun _ => by rw [HG2.out]; simp only [sxWrong]; omega)⟩, ST.ev⟩
        · have e32 : ¬ ((c.toNat : Int) < 32) := by omega
          by_cases h126 : 126 < c.toNat
          · have e126 : (126 : Int) < (c.toNat : Int) := by omega
            have hp : sxPlain c = false := by unfold sxPlain; rw [decide_eq_false (show ¬ c.toNat ≤ 126 by omega)]; simp
            have h92 : ¬ (c.toNat = 92) := by omega
            unfold sxTextGo at HG1
            simp [hp, h34, h92] at HG1
            have HG2 := Lib.hid HG1
            clear HG1
            go_wp2
            (try simp only [Exit.inBlock, Exit.then]); refine bodyPost_ret (results_tmp4 rfl _ _ _) rfl ?_
            exact ⟨_, _, _, by rw [HG2.out]; rfl, ⟨(fun h => by rw [HG2.out] at h; cases h), (fun _ => by rw [HG2.out]; simp only [sxWrong]; omega)⟩, ST.ev⟩
          · have e126 : ¬ ((126 : Int) < (c.toNat : Int)) := by omega
            by_cases h92 : c.toNat = 92
            · have e92 : (c.toNat : Int) = 92 := by omega
              have HG2 := Lib.hid HG1
              clear HG1
              go_wp2
              go_loop [11] (fun kv => ∃ k : Nat, kv = .int .i64 (k : Int) ∧ 1 ≤ k ∧ k ≤ 3 ∧ Hid (2 ≤ k → ∃ x a, s.data.toList[j + 1]? = some x ∧ sxHex x = some a) ∧ Hid (3 ≤ k → ∃ x a, s.data.toList[j + 2]? = some x ∧ sxHex x = some a)) (fun kv => 3 - (intOf kv).toNat)
              case atStart => exact ⟨1, rfl, Nat.le_refl _, by omega, Lib.hid fun h => absurd h (by omega), Lib.hid fun h => absurd h (by omega)⟩
              case round =>
                obtain ⟨k, rfl, hk1, hk3, HA, HB⟩ := hrel
                have hpl : sxPlain c = false := by unfold sxPlain; rw [h92]; rfl
                by_cases k3 : k = 3
                · subst k3
                  obtain ⟨x, ha, hx, hxa⟩ := HA.out (by omega)
                  obtain ⟨y, hb, hy, hyb⟩ := HB.out (by omega)
                  have HG3 := HG2.out
                  rw [sx_dropped hx, sx_dropped hy, rf_escape b c x y _ _ ha hb h92 hxa hyb] at HG3
                  obtain ⟨hj1, ex⟩ := List.getElem?_eq_some_iff.1 hx
                  obtain ⟨hj2, ey⟩ := List.getElem?_eq_some_iff.1 hy
                  rw [HL.out] at hj1 hj2
                  have hx1 : ∀ hh, s[j + 1]'hh = x := fun _ => ex
                  have hy1 : ∀ hh, s[j + 2]'hh = y := fun _ => ey
                  have q1 : (0 : Int) ≤ (j : Int) + 1 := by omega
                  have q2 : (j : Int) + 1 < (s.size : Int) := by omega
                  have q3 : (0 : Int) ≤ (j : Int) + 2 := by omega
                  have q4 : (j : Int) + 2 < (s.size : Int) := by omega
                  have t1 : ((j : Int) + 1).toNat = j + 1 := by omega
                  have t2 : ((j : Int) + 2).toNat = j + 2 := by omega
                  have z1 : IntKind.i64.wrap ((j : Int) + 1) = (j : Int) + 1 := IntWalk.i64_in _ (by omega)
                  have z2 : IntKind.i64.wrap ((j : Int) + 2) = (j : Int) + 2 := IntWalk.i64_in _ (by omega)
                  have hha := sxHex_lt hxa
                  have hhb := sxHex_lt hyb
                  have HX := HH.out x
                  have HY2 := HH.out y
                  rw [hexI_some hxa] at HX
                  rw [hexI_some hyb] at HY2
                  have HX := Lib.hid HX
                  have HY2 := Lib.hid HY2
                  have hbyte := rf_byte hha hhb
                  have z3 : IntKind.i64.wrap (16 * (ha : Int)) = 16 * (ha : Int) := IntWalk.i64_in _ (by omega)
                  have z4 : IntKind.i64.wrap (16 * (ha : Int) + (hb : Int)) = 16 * (ha : Int) + (hb : Int) := IntWalk.i64_in _ (by omega)
                  have HG4 := Lib.hid HG3
                  generalize hN : UInt8.ofNat (16 * ha + hb) = N16 at *
                  have HBS := Lib.hid (fun w1 : World => sx_made_byte w1 N16)
                  have HST := Lib.hid ST
                  clear HG3 HG2 HA HB hx hy ex ey hxa hyb hN hha hhb
                  go_wp2
                  go_region_law (first
                    | (refine step_call rfl 64 #[.tmp 73] #[5] rfl (by kernel_rfl) #[.int .u8 (x.toNat : Int)] (by simp only [List.map_toArray, List.map_cons, List.map_nil]; rfl) _ (HX.out _) ?_)
                    | (refine step_call rfl 64 #[.tmp 79] #[5] rfl (by kernel_rfl) #[.int .u8 (y.toNat : Int)] (by simp only [List.map_toArray, List.map_cons, List.map_nil]; rfl) _ (HY2.out _) ?_)
                    | (refine step_append_byte rfl (.tmp 69) (.tmp 83) rfl Try.underlying101 Try.infoU8 (.slice A n cap) b rfl (HST.out.row.ev ((Ev.drew wr).trans (Ev.alloc wr.drew _))) (some ⟨wr.heap.size, 0, none⟩) 1 1 [N16] rfl (HBS.out wr.drew) (by rw [HLN.out]; simp; omega) ?_; intro v2 w5 hr2 hb2 hs2; obtain ⟨A2, n2, cap2, rfl, ST2⟩ := (HST.out.evs ((Ev.drew wr).trans (Ev.alloc wr.drew _))).step hr2 hb2 hs2))
                  all_goals (
                    go_wp2
                    go_round
                    case rel => exact ⟨b ++ [N16], A2, n2, cap2, j + 3, rfl, by go_num, by omega, by omega, by rw [← ST2.len, List.length_append, HLN.out]; simp; omega, ST2, Lib.hid (by rw [show j + 3 - i0 = j - i0 + 3 by omega]; exact HG4.out)⟩
                    case measure => simp [intOf]; omega)
                · obtain rfl | rfl : k = 1 ∨ k = 2 := by omega
                  · skip
                    have kz : IntKind.i64.wrap ((j : Int) + 1) = (j : Int) + 1 := IntWalk.i64_in _ (by omega)
                    have HG3 := HG2.out
                    by_cases hk : j + 1 < s.size
                    · have hx := sx_at s (j + 1) hk
                      obtain ⟨x, ex⟩ : ∃ x, s[j + 1] = x := ⟨_, rfl⟩
                      have hx1 : ∀ hh, s[j + 1]'hh = x := fun _ => ex
                      rw [ex] at hx
                      rw [sx_dropped hx] at HG3
                      unfold sxTextGo at HG3
                      simp [hpl, h92] at HG3
                      have q1 : (0 : Int) ≤ (j : Int) + 1 := by omega
                      have q2 : (j : Int) + 1 < (s.size : Int) := by omega
                      have q3 : ¬ ((s.size : Int) ≤ (j : Int) + 1) := by omega
                      have t1 : ((j : Int) + 1).toNat = j + 1 := by omega
                      have HX := HH.out x
                      cases hxa : sxHex x with
                      | none =>
                        rw [hxa] at HG3
                        rw [hexI_none hxa] at HX
                        have HX := Lib.hid HX
                        have HG4 := Lib.hid HG3
                        clear HG3 HG2 HA HB hx ex
                        go_wp2_with (first | ((with_reducible refine (HX.out _).mono ?_); rintro e w1 ⟨rfl, rfl⟩))
                        (try simp only [Exit.inBlock, Exit.then]); refine bodyPost_ret (results_tmp4 rfl _ _ _) rfl ?_
                        exact ⟨_, _, _, by rw [HG4.out]; rfl, ⟨(fun h => by rw [HG4.out] at h; cases h), (fun _ => by rw [HG4.out]; simp only [sxWrong]; omega)⟩, ST.ev⟩
                      | some a =>
                        rw [hexI_some hxa] at HX
                        have HX := Lib.hid HX
                        have q4 : ¬ ((a : Int) < 0) := by omega
                        have q5 : (0 : Int) ≤ (a : Int) := by omega
                        have HAx : Hid (∃ x a, s.data.toList[j + 1]? = some x ∧ sxHex x = some a) := Lib.hid ⟨x, a, hx, hxa⟩
                        clear HG3 hx ex
                        go_wp2_with (first | ((with_reducible refine (HX.out _).mono ?_); rintro e w1 ⟨rfl, rfl⟩))
                        go_round
                        case rel => exact ⟨2, rfl, by omega, by omega, Lib.hid fun _ => HAx.out, Lib.hid fun h => absurd h (by omega)⟩
                        case measure => simp [intOf]
                    · have q3 : (s.size : Int) ≤ (j : Int) + 1 := by omega
                      rw [List.drop_of_length_le (by rw [HL.out]; omega)] at HG3
                      unfold sxTextGo at HG3
                      simp [hpl, h92] at HG3
                      have HG4 := Lib.hid HG3
                      clear HG3 HG2 HA HB
                      go_wp2
                      (try simp only [Exit.inBlock, Exit.then]); refine bodyPost_ret (results_tmp4 rfl _ _ _) rfl ?_
                      exact ⟨_, _, _, by rw [HG4.out]; rfl, ⟨(fun h => by rw [HG4.out] at h; cases h), (fun _ => by rw [HG4.out]; simp only [sxWrong]; omega)⟩, ST.ev⟩
                  · skip
                    have kz : IntKind.i64.wrap ((j : Int) + 2) = (j : Int) + 2 := IntWalk.i64_in _ (by omega)
                    obtain ⟨x0, ha0, hx0, hxa0⟩ := HA.out (by omega)
                    have HG3 := HG2.out
                    rw [sx_dropped hx0] at HG3
                    have hj1 := (List.getElem?_eq_some_iff.1 hx0).1
                    rw [HL.out] at hj1
                    by_cases hk : j + 2 < s.size
                    · have hx := sx_at s (j + 2) hk
                      obtain ⟨x, ex⟩ : ∃ x, s[j + 2] = x := ⟨_, rfl⟩
                      have hx1 : ∀ hh, s[j + 2]'hh = x := fun _ => ex
                      rw [ex] at hx
                      rw [sx_dropped hx] at HG3
                      unfold sxTextGo at HG3
                      simp [hpl, h92, hxa0] at HG3
                      have q1 : (0 : Int) ≤ (j : Int) + 2 := by omega
                      have q2 : (j : Int) + 2 < (s.size : Int) := by omega
                      have q3 : ¬ ((s.size : Int) ≤ (j : Int) + 2) := by omega
                      have t1 : ((j : Int) + 2).toNat = j + 2 := by omega
                      have HX := HH.out x
                      cases hxa : sxHex x with
                      | none =>
                        rw [hxa] at HG3
                        rw [hexI_none hxa] at HX
                        have HX := Lib.hid HX
                        have HG4 := Lib.hid HG3
                        clear HG3 HG2 HA HB hx ex
                        go_wp2_with (first | ((with_reducible refine (HX.out _).mono ?_); rintro e w1 ⟨rfl, rfl⟩))
                        (try simp only [Exit.inBlock, Exit.then]); refine bodyPost_ret (results_tmp4 rfl _ _ _) rfl ?_
                        exact ⟨_, _, _, by rw [HG4.out]; rfl, ⟨(fun h => by rw [HG4.out] at h; cases h), (fun _ => by rw [HG4.out]; simp only [sxWrong]; omega)⟩, ST.ev⟩
                      | some a =>
                        rw [hexI_some hxa] at HX
                        have HX := Lib.hid HX
                        have q4 : ¬ ((a : Int) < 0) := by omega
                        have q5 : (0 : Int) ≤ (a : Int) := by omega
                        have HAx : Hid (∃ x a, s.data.toList[j + 2]? = some x ∧ sxHex x = some a) := Lib.hid ⟨x, a, hx, hxa⟩
                        clear HG3 hx ex
                        go_wp2_with (first | ((with_reducible refine (HX.out _).mono ?_); rintro e w1 ⟨rfl, rfl⟩))
                        go_round
                        case rel => exact ⟨3, rfl, by omega, by omega, Lib.hid fun _ => HA.out (by omega), Lib.hid fun _ => HAx.out⟩
                        case measure => simp [intOf]
                    · have q3 : (s.size : Int) ≤ (j : Int) + 2 := by omega
                      rw [List.drop_of_length_le (by rw [HL.out]; omega)] at HG3
                      unfold sxTextGo at HG3
                      simp [hpl, h92, hxa0] at HG3
                      have HG4 := Lib.hid HG3
                      clear HG3 HG2 HA HB
                      go_wp2
                      (try simp only [Exit.inBlock, Exit.then]); refine bodyPost_ret (results_tmp4 rfl _ _ _) rfl ?_
                      exact ⟨_, _, _, by rw [HG4.out]; rfl, ⟨(fun h => by rw [HG4.out] at h; cases h), (fun _ => by rw [HG4.out]; simp only [sxWrong]; omega)⟩, ST.ev⟩
            · have e92 : ¬ ((c.toNat : Int) = 92) := by omega
              have e92' : ((c.toNat : Int) == 92) = false := beq_eq_false_iff_ne.2 e92
              have hp : sxPlain c = true := by unfold sxPlain; simp; omega
              unfold sxTextGo at HG1
              simp [hp] at HG1
              have HG2 := Lib.hid HG1
              have HBS := Lib.hid (sx_made_byte wr c)
              clear HG1
              go_wp2_with (first
                | ((show wpList _ _ _ (⟨some 46, _, _, _, _, _⟩ :: _) _ _); refine wpList_append_row (o := ⟨some 46, _, _, _, _, _⟩) rfl (.tmp 43) (.tmp 45) rfl Try.underlying101 Try.infoU8 (.slice A n cap) b rfl (ST.row.ev (Ev.alloc _ _)) (some ⟨wr.heap.size, 0, none⟩) 1 1 [c] rfl HBS.out (by rw [HLN.out]; simp; omega) ?_; intro v2 w5 hr2 hb2 hs2; obtain ⟨A2, n2, cap2, rfl, ST2⟩ := (ST.evs (Ev.alloc _ _)).step hr2 hb2 hs2))
              go_round
              case rel => exact ⟨b ++ [c], A2, n2, cap2, j + 1, rfl, by go_num, by omega, by omega, by rw [← ST2.len, List.length_append, HLN.out]; simp; omega, ST2, Lib.hid (by rw [show j + 1 - i0 = j - i0 + 1 by omega]; exact HG2.out)⟩
              case measure => simp [intOf]; omega
    · have hjs : j = s.size := by omega
      have HG1 := HG.out
      rw [List.drop_of_length_le (by rw [HL.out]; omega)] at HG1
      unfold sxTextGo at HG1
      have HG2 := Lib.hid HG1
      have g2 : (s.size : Int) ≤ (j : Int) := by omega
      clear HG1 HG
      go_wp2
      (try simp only [Exit.inBlock, Exit.then]); refine bodyPost_ret (results_tmp4 rfl _ _ _) rfl ?_
      exact ⟨_, _, _, by rw [HG2.out]; rfl, ⟨(fun h => by rw [HG2.out] at h; cases h), (fun _ => by rw [HG2.out]; simp only [sxWrong]; omega)⟩, ST.ev⟩
end Go.Proofs.Ytgiofdmedhhobaa
