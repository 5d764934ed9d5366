/-
  Texts that belong together: Package sexp: take. What a token tells of the byte at which it stands. Package sexp: Read. Chapter 7's runs ('known'). The document's own signs: letters, digits, hexadecimal digits. The document's own number. The document's own number at a place: what the plain number gives of the rest. The document's own text at a place. Boxes of structs; the document's own leaf. Chapter 8 in plain words: expressions, their kinds and values; expressions in memory. The book: two lists of expressions that are alike are told to be so.
-/
import Derived.Deep.RegionWith
import Derived.Test.YtojbahjebfcmgaaGreatDoorZ14W
import Derived.KernelRfl
import Derived.Deep.RegionLaw
import Derived.Test.YtojbahjebfcmgaaGreatDoorZ13W
import Derived.Test.YtojbahjebfcmgaaGreatDoorZ6W
import Derived.Test.YtojbahjebfcmgaaGreatDoorZ0W
namespace Go.Proofs.YtojbahjebfcmgaaGreatDoor
open Go.RowKit
set_option linter.unusedVariables false

/-- append of one tree onto a row of the call's own. -/
theorem wpList_append_m {P : Program} {w : World} {ops : Array Oper} {rest : List Oper} {o : Oper} {a : Act} {Q : Exit → Act → World → Prop} (hgd : o.guard = none) (s x : Operand)
    (hop : o.op = .call { callee := .builtin .append, args := #[s, x], argTypes := #[65, 65] })
    (ht : P.underlying 65 = some (.slice 67)) (hi : (P.info? 67).map (fun i => (i.zero, i.size, i.bytes)) = some (some (.agg #[.int .i64 0, .string ⟨#[]⟩, .int .i64 0, .slice none 0 0, .int .i64 0]), 5, 64))
    (base : Nat) (v : Value) (n : Nat) (xs : List Value) (hs : a.eval s = v) (hown : w.ownsRow base 67 5 v n xs) (b c : Nat) (hx : a.eval x = .slice (some ⟨b, 0, none⟩) 1 c) (m : M)
    (hm : ∀ j u, (mc m)[j]? = some u → w.cell? ⟨b, j, none⟩ = some u) (hn : n ≤ 1000000) (hbase : base ≤ w.heap.size)
    (h : ∀ v' w', w'.ownsRow base 67 5 v' (n + 1) (xs ++ mc m) → w.grownBy w' v.ownBlock → (v'.ownBlock = v.ownBlock ∨ v'.ownBlock = some w.heap.size) → wpList P ops Q rest (a.put o.dst v') w') : wpList P ops Q (o :: rest) a w := by
  refine wpList_plain hgd fun K hK => ?_
  obtain ⟨i, hi0, hz, hsz, hby⟩ := info_parts hi
  obtain ⟨v', w', hr, h1, h2, _, h4⟩ := run_append_own_at (P := P) w base 65 o.type 67 i _ 5 64 ht hi0 hz hsz hby rfl (by decide) v n xs hown ⟨b, 0, none⟩ 1 c (mc m) rfl (fun j u hu => by rw [Addr.add_lit, Nat.zero_add]; exact hm j u hu)
    (fun u hu => mlist_ones [m] u (by rw [mlist_one_]; exact hu)) (by unfold maxLen; omega) (by omega) hbase
  unfold Oper.wp execOp
  simp only [hop, resolve, invoke, builtin, Sem.run_bind, Sem.run_pure, Result.andThen_ok, List.map_toArray, List.map_cons, List.map_nil, hs, hx, hr]
  exact hK _ _ (h v' w' h1 h2 h4)

/-- A token's tree. -/
def mtok (k : Int) (s : By) (n : Int) (p : Nat) : M := .mk k s n none 0 [] p
theorem Lies.tok (b0 : Nat) (K : List Nat) (w : World) (k : Int) (s : By) (n : Int) (p : Nat) : Lies b0 K w (mtok k s n p) := .mk (Sl.nil_ w) (fun _ h => by cases h) (fun _ h => by cases h)
theorem Opn.pop {base : Nat} {w : World} {vb q vcap : Nat} {os : List M} {e : M} (h : Opn base w (.slice (some ⟨vb, 0, none⟩) (q + 1) vcap) (os ++ [e])) (hq : os.length = q) :
    Opn base w (.slice (some ⟨vb, 0, none⟩) q vcap) os ∧ Lies base (blk (.slice (some ⟨vb, 0, none⟩) q vcap) os) w e ∧ (∀ x ∈ blk (.slice (some ⟨vb, 0, none⟩) q vcap) os, x ∈ blk (.slice (some ⟨vb, 0, none⟩) (q + 1) vcap) (os ++ [e])) := by
  subst hq
  have hnd := h.nd
  rw [blk_snoc] at hnd
  have hnd3 := List.nodup_append.1 hnd
  have hbe : blk (.slice (some ⟨vb, 0, none⟩) os.length vcap) os = blk (.slice (some ⟨vb, 0, none⟩) (os.length + 1) vcap) os := rfl
  have hsub : ∀ x ∈ blk (.slice (some ⟨vb, 0, none⟩) os.length vcap) os, x ∈ blk (.slice (some ⟨vb, 0, none⟩) (os.length + 1) vcap) (os ++ [e]) := fun x hx => by
    rw [blk_snoc]
    exact List.mem_append_left _ hx
  have hlies : ∀ m, Lies base (blk (.slice (some ⟨vb, 0, none⟩) (os.length + 1) vcap) (os ++ [e])) w m → Lies base (blk (.slice (some ⟨vb, 0, none⟩) os.length vcap) os) w m := fun m hm => hm.less fun x hx => .inl (hsub x hx)
  refine ⟨⟨?_, fun e0 he0 => h.kid e0 (List.mem_append_left _ he0), by rw [hbe]; exact hnd3.1, fun e0 he0 m hm => hlies m (h.lies e0 (List.mem_append_left _ he0) m hm)⟩, ?_, hsub⟩
  · rcases h.own.2 with ⟨hv, _⟩ | ⟨g', cap', cur, hv, hb, hh, hnc, hcm, hcs, ht⟩
    · cases hv
    · injection hv with h1 h2 h3
      injection h1 with h1
      injection h1 with h1 _ _
      subst h1
      subst h3
      have hlen : (os ++ [e]).length = os.length + 1 := by simp
      rw [hlen, mlist_append] at ht
      rw [hlen] at hnc
      refine ⟨by rw [mlist_length], .inr ⟨vb, vcap, cur, rfl, hb, hh, by omega, hcm, hcs, ?_⟩⟩
      have := congrArg (List.take (os.length * 5)) ht
      rw [List.take_take, Nat.min_eq_left (by omega), List.take_left' (mlist_length os)] at this
      exact this
  · have hk := h.kid e (by simp)
    obtain ⟨k, s, n, A, c, l, p⟩ := e
    refine .mk (own_ms hk) (fun ad hA => ?_) fun m hm => hlies m (h.lies (.mk k s n A c l p) (by simp) m hm)
    subst hA
    have hown : (M.kv (.mk k s n (some ad) c l p)).ownBlock = some ad.block := rfl
    refine ⟨(hk.lt _ hown).1, (hk.lt _ hown).2, fun hm => ?_⟩
    rw [hbe] at hm
    exact hnd3.2.2 _ hm _ (mem_foot.2 hown) rfl
theorem snoc_of {α : Type} (l : List α) (h : l ≠ []) : ∃ l' a, l = l' ++ [a] := ⟨l.dropLast, l.getLast h, (List.dropLast_concat_getLast h).symm⟩

theorem foot_own {v v1 : Value} (h : v1.ownBlock = v.ownBlock) : foot v1 = foot v := by unfold foot; rw [h]
theorem Opn.push {base : Nat} {w w2 : World} {v v1 : Value} {os : List M} {q : Nat} {k : Int} {s : By} {n : Int} {p : Nat} (h : Opn base w v os) (hq : q = os.length) (h1 : w2.ownsRow base 67 5 v1 (q + 1) (mlist os ++ mc (mtok k s n p))) (B : But (foot v) w w2)
    (h3 : v1.ownBlock = v.ownBlock ∨ ∃ g, v1.ownBlock = some g ∧ w.heap.size ≤ g) : Opn base w2 v1 (os ++ [mtok k s n p]) ∧ (∀ x ∈ blk v1 (os ++ [mtok k s n p]), x ∈ blk v os ∨ w.heap.size ≤ x) := by
  subst hq
  have hnd3 := List.nodup_append.1 (show (foot v ++ os.flatMap fun e => foot e.kv).Nodup from h.nd)
  have hbe : blk v1 (os ++ [mtok k s n p]) = foot v1 ++ os.flatMap fun e => foot e.kv := by
    rw [blk_snoc, show foot (mtok k s n p).kv = [] from rfl, List.append_nil]
    rfl
  have hsub : ∀ x ∈ blk v1 (os ++ [mtok k s n p]), x ∈ blk v os ∨ w.heap.size ≤ x := fun x hx => by
    rw [hbe] at hx
    rcases List.mem_append.1 hx with h4 | h4
    · rcases h3 with h5 | ⟨g, h5, h6⟩
      · rw [foot_own h5] at h4
        exact .inl (List.mem_append_left _ h4)
      · have := mem_foot.1 h4
        rw [h5] at this
        simp at this
        exact .inr (by omega)
    · exact .inl (List.mem_append_right _ h4)
  refine ⟨⟨by rw [mlist_append, mlist_one_, show (os ++ [mtok k s n p]).length = os.length + 1 by simp]; exact h1, fun e he => ?_, ?_, fun e he m hm => ?_⟩, hsub⟩
  · rcases List.mem_append.1 he with h4 | h4
    · exact own_but (h.kid e h4) B fun g hg hm => hnd3.2.2 _ hm _ (List.mem_flatMap.2 ⟨e, h4, mem_foot.2 hg⟩) rfl
    · simp at h4
      subst h4
      exact World.ownsRow_nil _ _ _ _
  · rw [hbe, List.nodup_append]
    refine ⟨?_, hnd3.2.1, fun a ha b hb => ?_⟩
    · unfold foot
      cases v1.ownBlock <;> simp
    · rcases h3 with h5 | ⟨g, h5, h6⟩
      · rw [foot_own h5] at ha
        exact hnd3.2.2 a ha b hb
      · have h7 := mem_foot.1 ha
        rw [h5] at h7
        simp at h7
        have h8 := (h.range (g := b) (List.mem_append_right _ hb)).2
        omega
  · rcases List.mem_append.1 he with h4 | h4
    · exact (h.lies e h4 m hm).move (B.wide fun x hx => .inl (List.mem_append_left _ hx)) (fun x hx => (hsub x hx).imp id .inr)
    · simp at h4
      subst h4
      cases hm

/-- What take leaves. -/
def TakeOut (base : Nat) (v : Value) (os : List M) (t : T) (w : World) (r : Ending) (w' : World) : Prop :=
  ∃ v' os', r = .returned v' ∧ Opn base w' v' os' ∧ os'.map M.t = sxTake (os.map M.t) t ∧ os' ≠ [] ∧ But (blk v os) w w' ∧ (∀ x ∈ blk v' os', x ∈ blk v os ∨ w.heap.size ≤ x)

set_option maxRecDepth 100000 in
set_option maxHeartbeats 4000000 in
theorem sx_take {base : Nat} {v : Value} {os : List M} (w : World) (h : Opn base w v os) (h0 : os ≠ []) (k : Int) (s : By) (n : Int) (p : Nat) (hk : k = -1 → 2 ≤ os.length) (hl : os.length ≤ 1000000) (hkl : ∀ e ∈ os, e.kids.length ≤ 1000000) :
    Calls Tryz.prog 50 #[v, mv (mtok k s n p)] w (TakeOut base v os (mtok k s n p).t w) := by
  obtain ⟨vb, vcap, rfl, hle, hmx, hvb, hlt, _, _⟩ := h.at h0
  obtain ⟨w0, hw0⟩ : ∃ w0, w0 = w.alloc (.cells (mc (mtok k s n p)).toArray 67) := ⟨_, rfl⟩
  have hE0 : Ev w w0 := hw0 ▸ Ev.alloc w _
  have hb : w0.heap[w.heap.size]? = some (.cells (mc (mtok k s n p)).toArray 67 (0, 0)) := by rw [hw0]; exact heap_alloc_new _ _
  have h' := h.ev hE0
  have hck : ∀ j u, (mc (mtok k s n p))[j]? = some u → w0.cell? ⟨w.heap.size, j, none⟩ = some u := fun j u hu => by rw [Lib.cell_of_heap hb]; simpa using hu
  have b0 : w0.cell? ⟨w.heap.size, 0, none⟩ = some (.int .i64 k) := hck 0 _ rfl
  have b1 : w0.cell? ⟨w.heap.size, 1, none⟩ = some (.string ⟨s.toArray⟩) := hck 1 _ rfl
  have b2 : w0.cell? ⟨w.heap.size, 2, none⟩ = some (.int .i64 n) := hck 2 _ rfl
  have b3 : w0.cell? ⟨w.heap.size, 3, none⟩ = some (.slice none 0 0) := hck 3 _ rfl
  have b4 : w0.cell? ⟨w.heap.size, 4, none⟩ = some (.int .i64 (p : Int)) := hck 4 _ rfl
  have hw0' : w.alloc (.cells #[.int .i64 k, .string ⟨s.toArray⟩, .int .i64 n, .slice none 0 0, .int .i64 (p : Int)] 67) = w0 := hw0.symm
  have hmv : mv (mtok k s n p) = .agg #[.int .i64 k, .string ⟨s.toArray⟩, .int .i64 n, .slice none 0 0, .int .i64 (p : Int)] := rfl
  have hlw : w.heap.size < w0.heap.size := by rw [hw0]; simp
  have hT : (mtok k s n p).t.kind = k := by rw [M.t_kind]; rfl
  clear hb hck hw0
  rw [hmv]
  by_cases k1 : k = 1
  · subst k1
    have hTk : sxTake (os.map M.t) (mtok 1 s n p).t = os.map M.t ++ [(mtok 1 s n p).t] := by unfold sxTake; rw [hT]; rfl
    obtain ⟨q, hq⟩ : ∃ q, q = os.length := ⟨_, rfl⟩
    rw [← hq] at h h' hle hl ⊢
    have HH := Lib.hid h'
    have HQ := Lib.hid hq
    have HTk := Lib.hid hTk
    have hE1 : Ev w0 (w0.alloc (.cells #[.int .i64 1, .string ⟨s.toArray⟩, .int .i64 n, .slice none 0 0, .int .i64 (p : Int)] 67)) := Ev.alloc _ _
    have HZ : Hid (∀ j u, (mc (mtok 1 s n p))[j]? = some u → (w0.alloc (.cells #[.int .i64 1, .string ⟨s.toArray⟩, .int .i64 n, .slice none 0 0, .int .i64 (p : Int)] 67)).cell? ⟨w0.heap.size, j, none⟩ = some u) := Lib.hid fun j u hu => by
      rw [Lib.cell_of_heap (heap_alloc_new w0 _)]
      simpa [mc, mtok, M.kind, M.s, M.n, M.kv, M.A, M.kids, M.cap, M.pos] using hu
    have hbw : base ≤ w0.heap.size := by have := h'.range (g := vb) (mem_blk.2 (.inl rfl)); omega
    clear hq hTk hT h'
    go_enter Tryz.func50, Tryz.ntmps50
    go_wp2_with (first
      | ((show wpList _ _ _ (⟨some 19, _, _, _, _, _⟩ :: _) _ _); refine wpList_append_m (o := ⟨some 19, _, _, _, _, _⟩) rfl (.tmp 16) (.tmp 18) rfl Tryz.underlying65 Tryz.infoTree base (.slice (some ⟨vb, 0, none⟩) q vcap) q (mlist os) rfl (by have := (HH.out.ev hE1).own; rwa [← HQ.out] at this) w0.heap.size 1 rfl (mtok 1 s n p) HZ.out hl (Nat.le_trans hbw hE1.size) ?_; intro v1 w1 h1 h2 h3; obtain ⟨A1, n1, cap1, rfl⟩ : ∃ A1 n1 cap1, v1 = .slice A1 n1 cap1 := (by rcases h1.2 with ⟨rfl, _⟩ | ⟨g, cap, cur, rfl, _⟩ <;> exact ⟨_, _, _, rfl⟩)))
    go_ret
    have hB : But (foot (.slice (some ⟨vb, 0, none⟩) q vcap)) w w1 := ((But.of_ev hE0).then (But.of_ev hE1)).then (But.grown h2 fun g hg => mem_foot.2 hg)
    have hP := Opn.push (k := 1) (s := s) (n := n) (p := p) h HQ.out h1 hB (by
      rcases h3 with h4 | h4
      · exact .inl h4
      · exact .inr ⟨_, h4, Nat.le_trans hE0.size hE1.size⟩)
    exact ⟨_, _, rfl, hP.1, by rw [HTk.out]; simp, by simp, hB.wide fun x hx => .inl (List.mem_append_left _ hx), hP.2⟩
  · have k1' : (k == 1) = false := beq_eq_false_iff_ne.2 k1
    by_cases k2 : k = -1
    · subst k2
      obtain ⟨os0, e, rfl⟩ := snoc_of os h0
      have h00 : os0 ≠ [] := by
        intro h5
        subst h5
        have := hk rfl
        simp at this
      obtain ⟨os1, e1, rfl⟩ := snoc_of os0 h00
      have hTk : sxTake ((os1 ++ [e1] ++ [e]).map M.t) (mtok (-1) s n p).t = os1.map M.t ++ [e1.t.add e.t] := by
        unfold sxTake
        rw [hT]
        simp only [List.map_append, List.map_cons, List.map_nil, List.getLast?_append, List.getLast?_singleton, List.dropLast_concat]
        exact sxPut_snoc _ _ _
      have HTk := Lib.hid hTk
      obtain ⟨q, hq⟩ : ∃ q, (os1 ++ [e1]).length = q := ⟨_, rfl⟩
      have hq1 : 1 ≤ q := by rw [← hq]; simp
      have hlen : (os1 ++ [e1] ++ [e]).length = q + 1 := by rw [List.length_append, hq]; rfl
      rw [hlen] at h h' hle hl ⊢
      obtain ⟨hp1, hp2, hp3⟩ := h'.pop hq
      obtain ⟨_, _, hvv, _, _, _, _, hfr, hc⟩ := h'.at (by simp)
      injection hvv with hv1 hv2 hv3
      injection hv1 with hv1
      injection hv1 with hv1 _ _
      subst hv1
      subst hv3
      clear hv2
      obtain ⟨c0, c1, c2, c3, c4⟩ := hc q e (by rw [← hq]; simp)
      have HP := fun w1 (hE : Ev w0 w1) => sx_put w1 (hp1.ev hE) (hp2.ev hE) (hkl e1 (by simp))
      unfold mv at HP
      have HP := Lib.hid HP
      have hltw : vb < w0.heap.size := Nat.lt_of_lt_of_le hlt hE0.size
      have i1 : (0 : Int) ≤ (q : Int) := by omega
      have i2 : (q : Int) < (q : Int) + 1 := by omega
      have i3 : (q : Int) ≤ (vcap : Int) := by omega
      have i4 : q ≤ vcap := by omega
      have i5 : ¬ (vcap < q) := by omega
      have HS3 := Lib.hid hp3
      have hBk : Hid (∀ w3, But (blk (.slice (some ⟨vb, 0, none⟩) q vcap) (os1 ++ [e1])) w0.drew w3 → But (blk (.slice (some ⟨vb, 0, none⟩) (q + 1) vcap) (os1 ++ [e1] ++ [e])) w w3) := Lib.hid fun w3 hb' => (But.of_ev (hE0.trans (Ev.drew w0))).then (hb'.wide fun x hx => .inl (hp3 x hx))
      clear hTk hT h' hp1 hp2 hc hfr hq hkl hk hlen hp3
      go_enter Tryz.func50, Tryz.ntmps50
      go_wp2_with fail
      go_region_with (first | ((with_reducible refine (HP.out _ (Ev.drew _)).mono ?_); rintro r w3 ⟨rfl, e', he', ho', hb', hs'⟩))
      all_goals (go_wp2; go_ret; exact ⟨_, _, rfl, ho', by rw [HTk.out]; simp [he'], by simp, hBk.out _ hb', fun x hx => (hs' x hx).imp (HS3.out x) (fun h5 => Nat.le_trans hE0.size h5)⟩)
    · have k2' : (k == -1) = false := beq_eq_false_iff_ne.2 k2
      obtain ⟨os1, e1, rfl⟩ := snoc_of os h0
      have hTk : sxTake ((os1 ++ [e1]).map M.t) (mtok k s n p).t = os1.map M.t ++ [e1.t.add (mtok k s n p).t] := by
        unfold sxTake
        rw [hT]
        simp only [k1', k2', List.map_append, List.map_cons, List.map_nil, Bool.false_eq_true, if_false]
        exact sxPut_snoc _ _ _
      have HTk := Lib.hid hTk
      have HP := fun w1 (hE : Ev w0 w1) => sx_put w1 (h'.ev hE) (Lies.tok _ _ w1 k s n p) (hkl e1 (by simp))
      rw [hmv] at HP
      have HP := Lib.hid HP
      obtain ⟨q, hq⟩ : ∃ q, (os1 ++ [e1]).length = q := ⟨_, rfl⟩
      rw [hq] at hle HP h ⊢
      have hq1 : 1 ≤ q := by rw [← hq]; simp
      clear hTk hT h' hq hkl hk
      go_enter Tryz.func50, Tryz.ntmps50
      go_wp2_with (first | ((with_reducible refine (HP.out _ (Ev.refl _)).mono ?_); rintro r w3 ⟨rfl, e', he', ho', hb', hs'⟩))
      go_ret
      exact ⟨_, _, rfl, ho', by rw [HTk.out]; simp [he'], by simp, (But.of_ev hE0).then hb', fun x hx => (hs' x hx).imp id (fun h5 => Nat.le_trans hE0.size h5)⟩
end Go.Proofs.YtojbahjebfcmgaaGreatDoor

namespace Go.Proofs.YtojbahjebfcmgaaGreatDoor
open Go.RowKit
set_option linter.unusedVariables false

theorem sxText_props : ∀ (N : Nat) (r b : By) (i : Nat), r.length ≤ N → ((sxTextGo b r i).why ≠ 0 → (sxTextGo b r i).kind = 0 ∧ ((sxTextGo b r i).fault ≤ i + r.length)) ∧ ((sxTextGo b r i).why = 0 → (sxTextGo b r i).kind = 4 ∧ i + 1 ≤ (sxTextGo b r i).size ∧ (sxTextGo b r i).size ≤ i + r.length)
  | 0, [], b, i, _ => by simp [sxTextGo, sxWrong]
  | N + 1, [], b, i, _ => by simp [sxTextGo, sxWrong]
  | 0, c :: q, b, i, h => by simp at h
  | N + 1, c :: q, b, i, h => by
    have hq : q.length ≤ N := by simpa using h
    unfold sxTextGo
    by_cases hp : sxPlain c = true
    · rw [if_pos hp]
      obtain ⟨h1, h2⟩ := sxText_props N q (b ++ [c]) (i + 1) hq
      refine ⟨fun hw => ⟨(h1 hw).1, by have := (h1 hw).2; simp only [List.length_cons]; omega⟩, fun hw => ⟨(h2 hw).1, by have := (h2 hw).2; omega, by have := (h2 hw).2; simp only [List.length_cons]; omega⟩⟩
    · rw [if_neg hp]
      by_cases h92 : (c.toNat == 92) = true
      · rw [if_pos h92]
        cases q with
        | nil => simp [sxWrong]
        | cons x q1 =>
          simp only []
          cases hx : sxHex x with
          | none =>
            simp [sxWrong]
          | some a =>
            cases q1 with
            | nil => simp [sxWrong]
            | cons y q2 =>
              simp only []
              cases hy : sxHex y with
              | none =>
                simp [sxWrong]
              | some k =>
                simp only []
                obtain ⟨h1, h2⟩ := sxText_props N q2 (b ++ [UInt8.ofNat (16 * a + k)]) (i + 3) (by simp at hq; omega)
                refine ⟨fun hw => ⟨(h1 hw).1, by have := (h1 hw).2; simp only [List.length_cons]; omega⟩, fun hw => ⟨(h2 hw).1, by have := (h2 hw).2; omega, by have := (h2 hw).2; simp only [List.length_cons]; omega⟩⟩
      · rw [if_neg h92]
        by_cases h34 : (c.toNat == 34) = true
        · rw [if_pos h34]
          by_cases h40 : 40 < b.length
          · rw [if_pos h40]
            simp [sxWrong]
          · rw [if_neg h40]
            simp
        · rw [if_neg h34]
          simp [sxWrong]
theorem sxNum_props (plus : Bool) (d : By) (hd : ∀ c ∈ d, sxDigit c = true) : ((sxNum plus d).why ≠ 0 → (sxNum plus d).kind = 0 ∧ (sxNum plus d).fault = 0) ∧
    ((sxNum plus d).why = 0 → (sxNum plus d).kind = 3 ∧ 1 ≤ d.length ∧ (sxNum plus d).size = (if plus then d.length else 1 + d.length) ∧ (if plus then 0 ≤ (sxNum plus d).n else (sxNum plus d).n ≤ 0)) := by
  unfold sxNum
  cases hb : sxBelow d 0 with
  | none => simp [sxWrong]
  | some n =>
    have hr := sxBelow_range d hd 0 n (by omega) (by omega) hb
    simp only []
    by_cases h1 : (d.isEmpty || plus && decide (n = -9223372036854775808)) = true
    · rw [if_pos h1]
      simp [sxWrong]
    · rw [if_neg h1]
      have hne : d.isEmpty = false := by
        cases hd' : d.isEmpty
        · rfl
        · rw [hd'] at h1; simp at h1
      have hlen : 1 ≤ d.length := by
        cases d with
        | nil => simp at hne
        | cons c q => simp
      cases plus
      · simp [hlen]; omega
      · simp [hlen]; omega

/-- What is known of the token at the beginning of some bytes. -/
structure ScanOk (c : UInt8) (r : By) (x : Tk) : Prop where
  bad : x.why ≠ 0 → x.kind = 0 ∧ x.fault ≤ r.length
  good : x.why = 0 → 1 ≤ x.size ∧ x.size ≤ r.length ∧
    ((x.kind = 1 ∧ c.toNat = 40) ∨ x.kind = -1 ∨ (x.kind = 2 ∧ 97 ≤ c.toNat ∧ c.toNat ≤ 122 ∧ ∃ q, x.s = c :: q) ∨ (x.kind = 3 ∧ (c.toNat = 45 ∧ x.n ≤ 0 ∨ 48 ≤ c.toNat ∧ c.toNat ≤ 57 ∧ 0 ≤ x.n)) ∨ (x.kind = 4 ∧ c.toNat = 34))
theorem sxScan_ok (c : UInt8) (q : By) : ScanOk c (c :: q) (sxScan (c :: q)) := by
  simp only [sxScan]
  by_cases h40 : (c.toNat == 40) = true
  · rw [if_pos h40]
    have h40' : c.toNat = 40 := by simpa using h40
    exact ⟨fun h => absurd rfl h, fun _ => ⟨Nat.le_refl _, by simp, .inl ⟨rfl, h40'⟩⟩⟩
  rw [if_neg h40]
  by_cases h41 : (c.toNat == 41) = true
  · rw [if_pos h41]
    exact ⟨fun h => absurd rfl h, fun _ => ⟨Nat.le_refl _, by simp, .inr (.inl rfl)⟩⟩
  rw [if_neg h41]
  by_cases h34 : (c.toNat == 34) = true
  · rw [if_pos h34]
    have h34' : c.toNat = 34 := by simpa using h34
    obtain ⟨h1, h2⟩ := sxText_props q.length q [] 1 (Nat.le_refl _)
    exact ⟨fun h => ⟨(h1 h).1, by have := (h1 h).2; simp; omega⟩, fun h => ⟨by have := (h2 h).2; omega, by have := (h2 h).2; simp; omega, .inr (.inr (.inr (.inr ⟨(h2 h).1, h34'⟩)))⟩⟩
  rw [if_neg h34]
  by_cases hn : (c.toNat == 45 || sxDigit c) = true
  · rw [if_pos hn]
    simp only [sxNumber]
    by_cases h45 : (c.toNat == 45) = true
    · rw [if_pos h45]
      have h45' : c.toNat = 45 := by simpa using h45
      obtain ⟨h1, h2⟩ := sxNum_props false (sxDigits q) (sxDigits_all q)
      have hl := sxDigits_len q
      have hr := sxRun_le sxDigit q
      refine ⟨fun h => ⟨(h1 h).1, by rw [(h1 h).2]; exact Nat.zero_le _⟩, fun h => ?_⟩
      obtain ⟨g1, g2, g3, g4⟩ := h2 h
      simp at g3 g4
      refine ⟨by omega, by simp; omega, .inr (.inr (.inr (.inl ⟨g1, .inl ⟨h45', g4⟩⟩)))⟩
    · rw [if_neg h45]
      have hdg : sxDigit c = true := by simpa [h45] using hn
      have hdg' : 48 ≤ c.toNat ∧ c.toNat ≤ 57 := by simpa [sxDigit] using hdg
      obtain ⟨h1, h2⟩ := sxNum_props true (sxDigits (c :: q)) (sxDigits_all (c :: q))
      have hl := sxDigits_len (c :: q)
      have hr := sxRun_le sxDigit (c :: q)
      refine ⟨fun h => ⟨(h1 h).1, by rw [(h1 h).2]; exact Nat.zero_le _⟩, fun h => ?_⟩
      obtain ⟨g1, g2, g3, g4⟩ := h2 h
      simp at g3 g4
      refine ⟨by omega, by omega, .inr (.inr (.inr (.inl ⟨g1, .inr ⟨hdg'.1, hdg'.2, g4⟩⟩)))⟩
  rw [if_neg hn]
  by_cases hl : sxLetter c = true
  · rw [if_pos hl]
    have hr := sxRun_le sxLetter (c :: q)
    have hr1 : sxRun sxLetter (c :: q) = sxRun sxLetter q + 1 := by simp [sxRun, hl]
    have hl' : 97 ≤ c.toNat ∧ c.toNat ≤ 122 := by simpa [sxLetter] using hl
    refine ⟨fun h => absurd rfl h, fun _ => ⟨by simp only []; omega, hr, .inr (.inr (.inl ⟨rfl, hl'.1, hl'.2, q.take (sxRun sxLetter q), ?_⟩))⟩⟩
    simp only []
    rw [hr1, List.take_succ_cons]
  · rw [if_neg hl]
    exact ⟨fun _ => ⟨rfl, Nat.zero_le _⟩, fun h => by simp [sxWrong] at h⟩
theorem sxJudge_ok {os : List T} {c : UInt8} {r : By} {x : Tk} (h : ScanOk c r x) (hj : (sxJudge os x).1 = 0) : x.why = 0 ∧ (x.kind = -1 → os.length ≠ 1) ∧ (x.kind ≠ -1 → sxDone os = false) ∧ (x.kind = 1 → os.length ≤ 12) := by
  unfold sxJudge at hj
  by_cases h1 : (!(x.why == 0) && !(sxDone os && decide (0 < x.fault))) = true
  · rw [if_pos h1] at hj
    simp only at hj
    rw [hj] at h1
    simp at h1
  rw [if_neg h1] at hj
  by_cases h2 : (x.kind == -1 && os.length == 1) = true
  · rw [if_pos h2] at hj; cases hj
  rw [if_neg h2] at hj
  by_cases h3 : (!(x.kind == -1) && sxDone os) = true
  · rw [if_pos h3] at hj; cases hj
  rw [if_neg h3] at hj
  by_cases h4 : (x.kind == 1 && decide (12 < os.length)) = true
  · rw [if_pos h4] at hj; cases hj
  have hw : x.why = 0 := by
    apply Classical.byContradiction
    intro hw
    have hk := (h.bad hw).1
    rw [hk] at h3
    have hw' : (x.why == 0) = false := beq_eq_false_iff_ne.2 hw
    rw [hw'] at h1
    cases hD : sxDone os
    · rw [hD] at h1; simp at h1
    · rw [hD] at h3; simp at h3
  refine ⟨hw, fun hk hl => h2 (by rw [hk, hl]; rfl), fun hk => ?_, fun hk => ?_⟩
  · cases hD : sxDone os
    · rfl
    · exact absurd (by rw [hD, beq_eq_false_iff_ne.2 hk]; rfl) h3
  · apply Classical.byContradiction
    intro hl
    exact h4 (by rw [hk, decide_eq_true (by omega)]; rfl)
theorem sxJudge_fault {os : List T} {c : UInt8} {r : By} {x : Tk} (h : ScanOk c r x) (hj : (sxJudge os x).1 ≠ 0) : (sxJudge os x).2 ≤ r.length := by
  unfold sxJudge at hj ⊢
  by_cases h1 : (!(x.why == 0) && !(sxDone os && decide (0 < x.fault))) = true
  · rw [if_pos h1] at hj ⊢
    exact (h.bad hj).2
  rw [if_neg h1]
  split
  · exact Nat.zero_le _
  · split
    · exact Nat.zero_le _
    · split <;> exact Nat.zero_le _
end Go.Proofs.YtojbahjebfcmgaaGreatDoor

namespace Go.Proofs.YtojbahjebfcmgaaGreatDoor
open Go.RowKit
set_option linter.unusedVariables false

theorem sxPut_len : ∀ (os : List T) (t : T), (sxPut os t).length = os.length
  | [], t => rfl
  | [e], t => rfl
  | e :: e' :: os, t => by
    have := sxPut_len (e' :: os) t
    unfold sxPut
    simp only [List.length_cons] at this ⊢
    omega
theorem T.add_kids (e t : T) : (e.add t).kids = e.kids ++ [t] := rfl
theorem sxPut_kids : ∀ (os : List T) (t : T) (i : Nat), (∀ e ∈ os, e.kids.length ≤ i) → ∀ e ∈ sxPut os t, e.kids.length ≤ i + 1
  | [], t, i, h => fun e he => by cases he
  | [a], t, i, h => fun e he => by
    simp [sxPut] at he
    subst he
    rw [T.add_kids]
    have := h a (by simp)
    simp
    omega
  | a :: b :: os, t, i, h => fun e he => by
    unfold sxPut at he
    rcases List.mem_cons.1 he with rfl | he
    · have := h e (by simp); omega
    · exact sxPut_kids (b :: os) t i (fun x hx => h x (List.mem_cons_of_mem _ hx)) e he
theorem sxTake_len (os : List T) (t : T) : (sxTake os t).length ≤ os.length + 1 := by
  unfold sxTake
  split
  · simp
  · split
    · cases h : os.getLast? with
      | none => simp
      | some e => simp only [sxPut_len, List.length_dropLast]; omega
    · rw [sxPut_len]; omega
theorem sxTake_kids (os : List T) (t : T) (i : Nat) (h : ∀ e ∈ os, e.kids.length ≤ i) (ht : t.kids = []) : ∀ e ∈ sxTake os t, e.kids.length ≤ i + 1 := by
  unfold sxTake
  split
  · intro e he
    rcases List.mem_append.1 he with h1 | h1
    · have := h e h1; omega
    · simp at h1
      subst h1
      rw [ht]; simp
  · split
    · cases hl : os.getLast? with
      | none => exact fun e he => by have := h e he; omega
      | some e0 =>
        exact sxPut_kids _ _ i (fun x hx => h x (List.dropLast_subset _ hx))
    · exact sxPut_kids _ _ i h

/-- The result's box. -/
structure TrBox (g : Nat) (w : World) : Prop where
  blk : w.heap[g]? = some (.cells (mraw 0 0 0 ⟨#[]⟩ (.slice none 0 0)) 67 (0, 0))
theorem TrBox.but {K : List Nat} {g : Nat} {w w' : World} (h : TrBox g w) (hb : But K w w') (hn : g ∉ K) : TrBox g w' := ⟨hb.heap h.blk hn⟩
theorem TrBox.ev {g : Nat} {w w' : World} (h : TrBox g w) (hE : Ev w w') : TrBox g w' := h.but (But.of_ev (K := []) hE) (by simp)
theorem TrBox.cs {g : Nat} {w : World} (h : TrBox g w) : w.cell? ⟨g, 0, none⟩ = some (.int .i64 0) ∧ w.cell? ⟨g, 1, none⟩ = some (.string ⟨#[]⟩) ∧ w.cell? ⟨g, 2, none⟩ = some (.int .i64 0) ∧ w.cell? ⟨g, 3, none⟩ = some (.slice none 0 0) ∧ w.cell? ⟨g, 4, none⟩ = some (.int .i64 0) ∧
    w.frozen? ⟨g, 0, none⟩ = false ∧ w.frozen? ⟨g, 1, none⟩ = false ∧ w.frozen? ⟨g, 2, none⟩ = false ∧ w.frozen? ⟨g, 3, none⟩ = false ∧ w.frozen? ⟨g, 4, none⟩ = false := by
  refine ⟨?_, ?_, ?_, ?_, ?_, Lib.frozen_of_heap h.blk 0, Lib.frozen_of_heap h.blk 1, Lib.frozen_of_heap h.blk 2, Lib.frozen_of_heap h.blk 3, Lib.frozen_of_heap h.blk 4⟩ <;> (rw [Lib.cell_of_heap h.blk]; rfl)
def trSet (g : Nat) (k n p : Int) (s : ByteArray) (v : Value) (w : World) : World :=
  ((((w.setCell ⟨g, 0, none⟩ (.int .i64 k)).setCell ⟨g, 1, none⟩ (.string s)).setCell ⟨g, 2, none⟩ (.int .i64 n)).setCell ⟨g, 3, none⟩ v).setCell ⟨g, 4, none⟩ (.int .i64 p)
theorem trSet_fold (g : Nat) (k n p : Int) (s : ByteArray) (v : Value) (w : World) :
  ((((w.setCell ⟨g, 0, none⟩ (.int .i64 k)).setCell ⟨g, 1, none⟩ (.string s)).setCell ⟨g, 2, none⟩ (.int .i64 n)).setCell ⟨g, 3, none⟩ v).setCell ⟨g, 4, none⟩ (.int .i64 p) = trSet g k n p s v w := rfl
theorem trSet_but (g : Nat) (k n p : Int) (s : ByteArray) (v : Value) (w : World) : But [g] w (trSet g k n p s v w) :=
  ((((But.setCell ⟨g, 0, none⟩ _ (by simp)).then (But.setCell ⟨g, 1, none⟩ _ (by simp))).then (But.setCell ⟨g, 2, none⟩ _ (by simp))).then (But.setCell ⟨g, 3, none⟩ _ (by simp))).then (But.setCell ⟨g, 4, none⟩ _ (by simp))
theorem TrBox.set {g : Nat} {w : World} (h : TrBox g w) (k n p : Int) (s : ByteArray) (v : Value) : (trSet g k n p s v w).heap[g]? = some (.cells (mraw k n p s v) 67 (0, 0)) := by
  have := set_heap 4 (.int .i64 p) (set_heap 3 v (set_heap 2 (.int .i64 n) (set_heap 1 (.string s) (set_heap 0 (.int .i64 k) h.blk))))
  rwa [show (((((mraw 0 0 0 ⟨#[]⟩ (.slice none 0 0)).setIfInBounds 0 (.int .i64 k)).setIfInBounds 1 (.string s)).setIfInBounds 2 (.int .i64 n)).setIfInBounds 3 v).setIfInBounds 4 (.int .i64 p) = mraw k n p s v by simp [mraw]] at this
theorem tr_done {w1 : World} {g : Nat} {fn : Func} {p u1 u2 : Tmp} (tmps : Array Value) (h : TrBox g w1) (k n q : Int) (s : ByteArray) (v : Value) (hf : fn.results = #[.cell p 67, .tmp u1, .tmp u2]) (hp : tmps.getD p undef = .pointer (some ⟨g, 0, none⟩)) :
    (results fn tmps).run Tryz.prog (trSet g k n q s v w1) = .ok (.tuple #[.agg (mraw k n q s v), tmps.getD u1 undef, tmps.getD u2 undef]) (trSet g k n q s v w1) :=
  ret_tree2 hf tmps _ g k n q s v hp (h.set k n q s v)

/-- In the midst of reading. -/
structure RdSt (w0 : World) (v : Value) (os : List M) (i : Nat) (w : World) : Prop where
  opn : Opn (w0.heap.size + 1) w v os
  ev : Ev w0 w
  box : TrBox w0.heap.size w
  some_ : os ≠ []
  few : os.length ≤ i + 1
  kids : ∀ e ∈ os, e.kids.length ≤ i
theorem RdSt.evs {w0 w w' : World} {v : Value} {os : List M} {i : Nat} (h : RdSt w0 v os i w) (hE : Ev w w') : RdSt w0 v os i w' :=
  ⟨h.opn.ev hE, h.ev.trans hE, h.box.ev hE, h.some_, h.few, h.kids⟩
theorem RdSt.high {w0 w : World} {v : Value} {os : List M} {i : Nat} (h : RdSt w0 v os i w) : ∀ x ∈ blk v os, w0.heap.size < x := fun x hx => by have := (h.opn.range hx).1; omega
theorem RdSt.next {w0 w w' : World} {v v' : Value} {os os' : List M} {i i' : Nat} {t : T} (h : RdSt w0 v os i w) (ho : Opn (w0.heap.size + 1) w' v' os') (hm : os'.map M.t = sxTake (os.map M.t) t) (ht : t.kids = []) (hn : os' ≠ []) (hb : But (blk v os) w w') (hi : i < i') : RdSt w0 v' os' i' w' := by
  refine ⟨ho, ((But.of_ev (K := blk v os) h.ev).then hb).ev fun k hk => by have := h.high k hk; omega, h.box.but hb fun hk => by have := h.high _ hk; omega, hn, ?_, fun e he => ?_⟩
  · have h1 := sxTake_len (os.map M.t) t
    rw [← hm, List.length_map, List.length_map] at h1
    have := h.few
    omega
  · have h1 := sxTake_kids (os.map M.t) t i (fun e he => by
      obtain ⟨m, hm', rfl⟩ := List.mem_map.1 he
      rw [M.t_kids, List.length_map]
      exact h.kids m hm') ht e.t (by rw [← hm]; exact List.mem_map.2 ⟨e, he, rfl⟩)
    rw [M.t_kids, List.length_map] at h1
    omega

theorem take_cell {K : List Nat} {w4 w6 : World} {gx : Nat} {j v : Value} (hb : But K (w4.setCell ⟨gx, 4, none⟩ j) w6) (hx : gx ∉ K) (hlt : gx < w4.heap.size) (c : w4.cell? ⟨gx, 5, none⟩ = some v) : w6.cell? ⟨gx, 5, none⟩ = some v := by
  rw [World.cell?_of_block (w := w4.setCell ⟨gx, 4, none⟩ j) (hb.block gx (by simpa [World.setCell] using hlt) hx)]
  have h2 : (w4.setCell ⟨gx, 4, none⟩ j).cell? ⟨gx, 5, none⟩ = w4.cell? ⟨gx, 5, none⟩ := World.cell?_setCell_other _ _ _ _ (by simp)
  exact h2.trans c
theorem Opn.init (w : World) : Opn (w.heap.size + 1) ((w.alloc (.cells #[.int .i64 0, .string ⟨#[]⟩, .int .i64 0, .slice none 0 0, .int .i64 0] 67)).alloc (.cells #[.int .i64 0, .string ⟨#[]⟩, .int .i64 0, .slice none 0 0, .int .i64 0] 67)) (.slice (some ⟨w.heap.size + 1, 0, none⟩) 1 1) [mzero] := by
  refine ⟨⟨rfl, .inr ⟨w.heap.size + 1, 1, _, rfl, Nat.le_refl _, heap_alloc2_new w _ _, Nat.le_refl _, by decide, rfl, rfl⟩⟩, fun e he => ?_, ?_, fun e he m hm => ?_⟩
  · simp at he
    subst he
    exact World.ownsRow_nil _ _ _ _
  · simp [blk, foot, Value.ownBlock, mzero, M.kv, M.A]
  · simp at he
    subst he
    cases hm

/-- What Read gives. -/
def ReadOut (R : Res) (w : World) (e : Ending) (w' : World) : Prop :=
  ∃ m : M, e = .returned (.tuple #[.agg #[.int .i64 m.kind, .string ⟨m.s.toArray⟩, .int .i64 m.n, .slice m.A m.kids.length m.cap, .int .i64 (m.pos : Int)], .int .i64 R.2.1, .int .i64 (R.2.2 : Int)]) ∧ m.t = R.1 ∧ Lies w.heap.size [] w' m ∧ Ev w w'

set_option maxRecDepth 100000 in
set_option maxHeartbeats 4000000 in
theorem sx_read (s0 : ByteArray) (w : World) (hs : s0.size ≤ 100000) :
    Calls Tryz.prog 26 #[.string s0] w (ReadOut (sxRead s0.data.toList) w) := by
  have hll : s0.data.toList.length = s0.size := by rw [Array.length_toList]; rfl
  have HL := Lib.hid hll
  obtain ⟨R, hR⟩ : ∃ R, R = sxRead s0.data.toList := ⟨_, rfl⟩
  rw [← hR]
  unfold sxRead at hR
  rw [hll] at hR
  have HR := Lib.hid hR
  clear hR hll
  go_enter Tryz.func26, Tryz.ntmps26
  go_wp2
  refine wp_scope_once 0 60 (fun s w2 => s 0 = .string s0 ∧ s 2 = .pointer (some ⟨w.heap.size, 0, none⟩) ∧ ∃ (v : Value) (os : List M) (i f : Nat), s 5 = v ∧ s 6 = .int .i64 (i : Int) ∧ i ≤ s0.size ∧ s0.size - i < f ∧ RdSt w v os i w2 ∧ Hid (R = sxGo f (os.map M.t) (s0.data.toList.drop i) i)) (fun s _ => s0.size - (intOf (s 6)).toNat) rfl ?_ ?_
  · rintro s w2 ⟨h0, h2, v, os, i, f, h5, h6, hi, hf, ST, HT⟩
    change Code.wp _ _ _ ⟨#[s 0, s 1, s 2, s 3, s 4, s 5, s 6, s 7, s 8, s 9, s 10, s 11, s 12, s 13, s 14, s 15, s 16, s 17, s 18, s 19, s 20, s 21, s 22, s 23, s 24, s 25, s 26, s 27, s 28, s 29, s 30, s 31, s 32, s 33, s 34, s 35, s 36, s 37, s 38, s 39, s 40, s 41, s 42, s 43, s 44, s 45, s 46, s 47, s 48, s 49, s 50, s 51, s 52, s 53, s 54, s 55, s 56, s 57, s 58, s 59], []⟩ _
    simp only [h0, h2, h5, h6]
    clear h0 h2 h5
    obtain ⟨f, rfl⟩ : ∃ f', f = f' + 1 := ⟨f - 1, by omega⟩
    obtain ⟨r, hr⟩ : ∃ r : ByteArray, r = s0.extract i s0.size := ⟨_, rfl⟩
    have hx : s0.extract i s0.size = r := hr.symm
    have hrl : r.data.toList = s0.data.toList.drop i := by rw [hr, Lib.extract_eq, List.take_of_length_le (by rw [List.length_drop, HL.out]; exact Nat.le_refl _)]
    have hrz : r.size = s0.size - i := by
      have : r.data.toList.length = r.size := by rw [Array.length_toList]; rfl
      rw [← this, hrl, List.length_drop, HL.out]
    have HB := Lib.hid (fun w1 => sx_run_isBlank r w1 (by omega))
    rw [hrl] at HB
    have hple := sxRun_le sxBlank (s0.data.toList.drop i)
    rw [List.length_drop, HL.out] at hple
    have HGO := HT.out
    unfold sxGo at HGO
    rw [List.drop_drop] at HGO
    generalize hp : sxRun sxBlank (s0.data.toList.drop i) = p at *
    have HG := Lib.hid HGO
    clear hr hrl hp HT HGO hrz
    go_upto_region 6 with (first
      | ((with_reducible refine (HB.out _).mono ?_); rintro e w3 ⟨rfl, rfl⟩))
    have e1 : (i : Int) + (p : Int) = ((i + p : Nat) : Int) := by omega
    simp only [e1]
    have hj : i + p ≤ s0.size := by omega
    have hij : i ≤ i + p := by omega
    generalize i + p = j at *
    clear HB e1 hx
    by_cases hjz : j = s0.size
    · have HSP : Hid (R = sxWhole (os.map M.t) s0.size) := Lib.hid (by
        rw [HG.out, List.drop_of_length_le (by rw [HL.out]; omega), hjz])
      have e2 : (j : Int) = (s0.size : Int) := by omega
      have HW := fun w1 (h1 : Opn (w.heap.size + 1) w1 v os) => sx_whole w1 h1 ST.some_ s0.size
      unfold mv M.kv at HW
      have HW := Lib.hid HW
      clear HG hjz
      go_wp2_with (first
        | ((with_reducible refine (HW.out _ ST.opn).mono ?_); rintro e w3 ⟨m, rfl, hmt, hml, hE3⟩; have B4 := (ST.evs hE3).box; have E4 := (ST.evs hE3).ev; obtain ⟨c0, c1, c2, c3, c4, f0, f1, f2, f3, f4⟩ := B4.cs))
      simp only [Exit.jump]
      rw [trSet_fold]
      refine bodyPost_ret (tr_done _ B4 _ _ _ _ _ rfl rfl) rfl ?_
      refine ⟨m, ?_, by rw [HSP.out]; exact hmt, ?_, E4.over1 (trSet_but _ _ _ _ _ _ _) (Nat.le_refl _)⟩
      · rw [HSP.out]; rfl
      · exact ((hml.less (K' := [w.heap.size]) (fun x hx => by simp at hx; exact .inr (.inl (by omega)))).move (trSet_but _ _ _ _ _ _ _) (K' := []) (fun x hx => by cases hx)).low (Nat.le_succ _)
    · have hlt : j < s0.size := by omega
      have hat := sx_at s0 j hlt
      obtain ⟨c, hc⟩ : ∃ c, s0[j] = c := ⟨_, rfl⟩
      rw [hc] at hat
      have hdr := sx_drop_cons _ _ _ hat
      obtain ⟨q, hq⟩ : ∃ q, q = s0.data.toList.drop (j + 1) := ⟨_, rfl⟩
      rw [← hq] at hdr
      have hql : (c :: q).length = s0.size - j := by rw [← hdr, List.length_drop, HL.out]
      have HG2 := HG.out
      rw [hdr] at HG2
      simp only [] at HG2
      have hok := sxScan_ok c q
      have hjo := fun h => sxJudge_ok (os := os.map M.t) hok h
      have hjf := fun h => sxJudge_fault (os := os.map M.t) hok h
      rw [List.length_map] at hjo
      have e2 : ¬ ((j : Int) = (s0.size : Int)) := by omega
      have e2' : ((j : Int) == (s0.size : Int)) = false := beq_eq_false_iff_ne.2 e2
      obtain ⟨y, hy⟩ : ∃ y : ByteArray, y = s0.extract j s0.size := ⟨_, rfl⟩
      have hxy : s0.extract j s0.size = y := hy.symm
      have hyl : y.data.toList = c :: q := by rw [hy, Lib.extract_eq, List.take_of_length_le (by rw [List.length_drop, HL.out]; exact Nat.le_refl _), hdr]
      have hyz : y.size = s0.size - j := by
        have : y.data.toList.length = y.size := by rw [Array.length_toList]; rfl
        rw [← this, hyl, hql]
      have HS := fun w1 => sx_scan y w1 (by omega) (by omega)
      rw [hyl] at HS
      have HJ := fun w1 (h1 : Opn (w.heap.size + 1) w1 v os) => sx_judge w1 h1 ST.some_ (sxScan (c :: q))
      generalize hX : sxScan (c :: q) = X at *
      generalize hJ : sxJudge (os.map M.t) X = J at *
      obtain ⟨k, xs, n, z, yy, ff⟩ := X
      obtain ⟨jw, jf⟩ := J
      simp only [tkv, tkc] at HS HJ HG2 hjo hjf
      have HS := Lib.hid HS
      have HJ := Lib.hid (fun w1 (hE : Ev w2 w1) => HJ w1 (ST.opn.ev hE))
      have HG3 := Lib.hid HG2
      have HQ := Lib.hid hq
      have HQL := Lib.hid hql
      have HDR := Lib.hid hdr
      have hok0 := hok.good
      simp only at hok0
      have HOK := Lib.hid hok0
      have HJO := Lib.hid hjo
      have HJF := Lib.hid hjf
      clear hc hat hdr hq hql HG HG2 hok hjo hjf hy hyl hJ hX hok0
      by_cases hw : jw = 0
      · subst hw
        obtain ⟨hyy, hk2, _, _⟩ := HJO.out rfl
        subst hyy
        obtain ⟨hz1, hz2, _⟩ := HOK.out rfl
        rw [HQL.out] at hz2
        have HSP : Hid (R = sxGo f (sxTake (os.map M.t) (mtok k xs n j).t) (s0.data.toList.drop (j + z)) (j + z)) := Lib.hid (by
          rw [HG3.out]
          simp only [beq_self_eq_true, if_true]
          rw [← HDR.out, List.drop_drop]
          rfl)
        have HT := fun w1 (hE : Ev w2 w1) => sx_take w1 (ST.opn.ev hE) ST.some_ k xs n j (fun h => by
          have := hk2 h
          have h0 := ST.some_
          cases hos : os with
          | nil => exact absurd hos h0
          | cons a l =>
            cases l with
            | nil => rw [hos] at this; exact absurd rfl this
            | cons b l => simp) (by have := ST.few; omega) (fun e he => by have := ST.kids e he; omega)
        rw [show mv (mtok k xs n j) = .agg #[.int .i64 k, .string ⟨xs.toArray⟩, .int .i64 n, .slice none 0 0, .int .i64 (j : Int)] from rfl] at HT
        have HT := Lib.hid HT
        have i1 : Hid ((j : Int) + (z : Int) = ((j + z : Nat) : Int)) := Lib.hid (by omega)
        have hjz2 : j + z ≤ s0.size := by omega
        clear HG3 HDR HQ HQL HOK HJO HJF hk2 hz2
        go_wp2_with (first
          | ((with_reducible refine (HS.out _).mono ?_); rintro e w3 ⟨rfl, hE3⟩)
          | ((with_reducible refine (HJ.out _ (hE3.trans (Ev.alloc _ _))).mono ?_); rintro e w4 ⟨rfl, hE4⟩; have X4 := (TkBox.new ⟨k, xs, n, z, 0, ff⟩ w3).ev hE4; obtain ⟨c0, c1, c2, c3, c4, c5, c6, c7⟩ := X4.cs; have f4 := X4.f 4; simp only at c0 c1 c2 c5; have hE5 : Ev w2 (w4.setCell ⟨w3.heap.size, 4, none⟩ (.int .i64 (j : Int))) := Ev.over1 (g := w3.heap.size) ((hE3.trans (Ev.alloc _ _)).trans hE4) (But.setCell _ _ (by simp)) hE3.size)
          | ((with_reducible refine (HT.out _ hE5).mono ?_); rintro e w6 ⟨v', os', rfl, ho', hmap', hne', hb', hs'⟩; have hgx : w3.heap.size ∉ blk v os := (fun hm => by have := (ST.opn.range hm).2; have := hE3.size; omega); have d5 : w6.cell? ⟨w3.heap.size, 5, none⟩ = some (.int .i64 (z : Int)) := take_cell hb' hgx X4.lt c5))
        go_step3
        refine ⟨rfl, ⟨rfl, rfl, rfl, rfl, v', os', j + z, f, rfl, ?_, hjz2, by omega, ?_, ?_⟩, ?_⟩
        · rw [← i1.out]; rfl
        · exact (ST.evs hE5).next ho' hmap' rfl hne' hb' (by omega)
        · rw [hmap']; exact HSP
        · simp [Act.eval, intOf]
          omega
      · have hw' : (jw == 0) = false := beq_eq_false_iff_ne.2 hw
        have hw'' : (jw != 0) = true := bne_iff_ne.2 hw
        have hjf2 := HJF.out hw
        rw [HQL.out] at hjf2
        have HSP : Hid (R = (sxZero, jw, j + jf)) := Lib.hid (by
          rw [HG3.out]
          simp only [hw', Bool.false_eq_true, if_false])
        have i2 : Hid ((j : Int) + (jf : Int) = ((j + jf : Nat) : Int)) := Lib.hid (by omega)
        have i3 : j + jf ≤ s0.size := by omega
        clear HG3 HDR HQ HQL HOK HJO HJF
        go_wp2_with (first
          | ((with_reducible refine (HS.out _).mono ?_); rintro e w3 ⟨rfl, hE3⟩)
          | ((with_reducible refine (HJ.out _ (hE3.trans (Ev.alloc _ _))).mono ?_); rintro e w4 ⟨rfl, hE4⟩; have X4 := (TkBox.new ⟨k, xs, n, z, yy, ff⟩ w3).ev hE4; have B4 := (ST.evs ((hE3.trans (Ev.alloc _ _)).trans hE4)).box; have E4 := (ST.evs ((hE3.trans (Ev.alloc _ _)).trans hE4)).ev; obtain ⟨c0, c1, c2, c3, c4, f0, f1, f2, f3, f4⟩ := B4.cs))
        simp only [Exit.jump]
        rw [trSet_fold]
        refine bodyPost_ret (tr_done _ B4 _ _ _ _ _ rfl rfl) rfl ?_
        refine ⟨mzero, ?_, by rw [HSP.out]; rfl, Lies.zero _ _ _, E4.over1 (trSet_but _ _ _ _ _ _ _) (Nat.le_refl _)⟩
        rw [HSP.out, ← i2.out]
        rfl
  · intro H
    by_cases hbig : 600 < s0.size
    · have HSP : Hid (R = (sxZero, 3, 0)) := Lib.hid (by rw [HR.out, if_pos hbig])
      have e1 : (600 : Int) < (s0.size : Int) := by omega
      go_wp2
      try simp only [Exit.jump]
      refine bodyPost_ret (ret_tree2 rfl _ _ w.heap.size 0 0 0 ⟨#[]⟩ (.slice none 0 0) rfl (heap_alloc_new w _)) rfl ?_
      refine ⟨mzero, ?_, by rw [HSP.out]; rfl, Lies.zero _ _ _, Ev.alloc _ _⟩
      rw [HSP.out]
      rfl
    · have HSP : Hid (R = sxGo (s0.size + 1) [sxZero] s0.data.toList 0) := Lib.hid (by rw [HR.out, if_neg hbig])
      have e1 : ¬ ((600 : Int) < (s0.size : Int)) := by omega
      go_wp2
      go_step3
      rename_i hK
      refine hK _ _ (H _ _ ?_ ?_ ?_)
      · rfl
      · rfl
      refine ⟨rfl, rfl, _, [mzero], 0, s0.size + 1, rfl, rfl, Nat.zero_le _, by omega, ⟨Opn.init w, (Ev.alloc _ _).trans (Ev.alloc _ _), ⟨?_⟩, by simp, by simp, fun e he => ?_⟩, HSP⟩
      · exact heap_alloc2_old w _ _
      · simp at he
        rw [he]
        exact Nat.le_refl _
end Go.Proofs.YtojbahjebfcmgaaGreatDoor

namespace Go.Proofs.YtojbahjebfcmgaaGreatDoor
open Go.RowKit
set_option linter.unusedVariables false

end Go.Proofs.YtojbahjebfcmgaaGreatDoor

namespace Go.Proofs.YtojbahjebfcmgaaGreatDoor
open Go.RowKit
set_option linter.unusedVariables false

end Go.Proofs.YtojbahjebfcmgaaGreatDoor

namespace Go.Proofs.YtojbahjebfcmgaaGreatDoor
open Go.RowKit
set_option linter.unusedVariables false

/-- What is known of the digits that have been read. -/
def NumSt (D : By) (k u : Nat) (fine : Bool) : Prop := if fine then sxBelow D 0 = sxBelow (D.drop k) (-(u : Int)) ∧ u ≤ 9223372036854775808 else sxBelow D 0 = none

theorem NumSt.bad {D : By} {k u u' d : Nat} {fine : Bool} (h : NumSt D k u fine) (hs : ∀ m : Int, sxBelow (D.drop k) m = if m < -((9223372036854775808 - (d : Int)) / 10) then none else sxBelow (D.drop (k + 1)) (m * 10 - (d : Int))) (ht : (9223372036854775808 - (d : Int)) / 10 < (u : Int)) : NumSt D (k + 1) u' false := by
  unfold NumSt at h ⊢
  simp only [Bool.false_eq_true, if_false]
  cases fine
  · exact h
  · rw [h.1, hs, if_pos (by omega)]
theorem NumSt.good {D : By} {k u d : Nat} {fine : Bool} (h : NumSt D k u fine) (hs : ∀ m : Int, sxBelow (D.drop k) m = if m < -((9223372036854775808 - (d : Int)) / 10) then none else sxBelow (D.drop (k + 1)) (m * 10 - (d : Int))) (hd : d ≤ 9) (ht : ¬ (9223372036854775808 - (d : Int)) / 10 < (u : Int)) : NumSt D (k + 1) (u * 10 + d) fine := by
  unfold NumSt at h ⊢
  cases fine
  · exact h
  · simp only [if_true] at h ⊢
    refine ⟨?_, by omega⟩
    rw [h.1, hs, if_neg (by omega), show (-(u : Int)) * 10 - (d : Int) = -((u * 10 + d : Nat) : Int) by omega]
/-- What comes of the digits. -/
theorem NumSt.out {D : By} {u : Nat} {fine : Bool} (h : NumSt D D.length u fine) (plus : Bool) : (D.length = 0 ∨ fine = false ∨ 9223372036854775808 < u ∨ (plus = true ∧ 9223372036854775807 < u)) → sxNum plus D = sxWrong 12 0 := by
  intro hc
  unfold NumSt at h
  unfold sxNum
  cases fine
  · simp only [Bool.false_eq_true, if_false] at h
    rw [h]
  · simp only [if_true] at h
    obtain ⟨h1, h2⟩ := h
    rw [List.drop_of_length_le (Nat.le_refl _)] at h1
    rw [h1]
    simp only [sxBelow]
    rcases hc with hc | hc | hc | ⟨hc, hu⟩
    · rw [List.eq_nil_of_length_eq_zero hc]; rfl
    · cases hc
    · omega
    · rw [if_pos]
      have : u = 9223372036854775808 := by omega
      subst this
      subst hc
      simp
theorem NumSt.fit {D : By} {u : Nat} (h : NumSt D D.length u true) (plus : Bool) (hk : D.length ≠ 0) (hu : plus = true → u ≤ 9223372036854775807) : u ≤ 9223372036854775808 ∧ sxNum plus D = if plus then ⟨3, [], (u : Int), D.length, 0, 0⟩ else ⟨3, [], -(u : Int), 1 + D.length, 0, 0⟩ := by
  unfold NumSt at h
  simp only [if_true] at h
  obtain ⟨h1, h2⟩ := h
  refine ⟨h2, ?_⟩
  rw [List.drop_of_length_le (Nat.le_refl _)] at h1
  unfold sxNum
  rw [h1]
  simp only [sxBelow]
  have he : D.isEmpty = false := by
    cases D with
    | nil => exact absurd rfl hk
    | cons a l => rfl
  cases plus
  · simp [he]
  · have := hu rfl
    rw [if_neg (by rw [he]; simp; omega)]
    simp

end Go.Proofs.YtojbahjebfcmgaaGreatDoor

namespace Go.Proofs.YtojbahjebfcmgaaGreatDoor
open Go.RowKit
set_option linter.unusedVariables false

end Go.Proofs.YtojbahjebfcmgaaGreatDoor

namespace Go.Proofs.YtojbahjebfcmgaaGreatDoor
open Go.RowKit
set_option linter.unusedVariables false

/-- The bytes that are gathered. -/
structure OutSt (w0 : World) (A : Option Addr) (n cap : Nat) (b : By) (w : World) : Prop where
  row : Row w (.slice A n cap) b
  len : b.length = n
  high : ∀ k, (Value.slice A n cap).ownBlock = some k → w0.heap.size ≤ k
  ev : Ev w0 w
theorem OutSt.step {w0 w w1 : World} {A : Option Addr} {n cap : Nat} {b B1 : By} {v1 : Value} (h : OutSt w0 A n cap b w) (hr : Row w1 v1 B1) (hb : But (foot (.slice A n cap)) w w1) (hs : Sprung w (.slice A n cap) v1) :
    ∃ A1 n1 cap1, v1 = .slice A1 n1 cap1 ∧ OutSt w0 A1 n1 cap1 B1 w1 := by
  obtain ⟨A1, cap1, rfl, _, _, _⟩ := hr.bs
  refine ⟨A1, _, cap1, rfl, hr, rfl, fun k hk => ?_, ((But.of_ev (K := foot (.slice A n cap)) h.ev).then hb).ev fun k hk => h.high k (mem_foot.1 hk)⟩
  rcases hs k hk with h1 | h1
  · exact h.high k h1
  · have := h.ev.size; omega
theorem OutSt.evs {w0 w w1 : World} {A : Option Addr} {n cap : Nat} {b : By} (h : OutSt w0 A n cap b w) (hE : Ev w w1) : OutSt w0 A n cap b w1 := ⟨h.row.ev hE, h.len, h.high, h.ev.trans hE⟩
theorem OutSt.init (w : World) : OutSt w (some ⟨w.heap.size, 0, none⟩) 0 0 [] (w.alloc (.cells #[] 5)) :=
  ⟨⟨rfl, .inr ⟨w.heap.size, 0, #[], rfl, Nat.zero_le _, heap_alloc_new w _, Nat.le_refl _, by decide, rfl, rfl⟩⟩, rfl, by simp [Value.ownBlock], Ev.alloc _ _⟩
end Go.Proofs.YtojbahjebfcmgaaGreatDoor

namespace Go.Proofs.YtojbahjebfcmgaaGreatDoor
open Go.RowKit
set_option linter.unusedVariables false

/-- A struct in its own box. -/
structure Bx (T : TypeId) (g : Nat) (cs : Array Value) (w : World) : Prop where
  blk : w.heap[g]? = some (.cells cs T (0, 0))
theorem Bx.but {K : List Nat} {T : TypeId} {g : Nat} {cs : Array Value} {w w' : World} (h : Bx T g cs w) (hb : But K w w') (hn : g ∉ K) : Bx T g cs w' := ⟨hb.heap h.blk hn⟩
theorem Bx.ev {T : TypeId} {g : Nat} {cs : Array Value} {w w' : World} (h : Bx T g cs w) (hE : Ev w w') : Bx T g cs w' := h.but (But.of_ev (K := []) hE) (by simp)
theorem Bx.lt {T : TypeId} {g : Nat} {cs : Array Value} {w : World} (h : Bx T g cs w) : g < w.heap.size := (Array.getElem?_eq_some_iff.1 h.blk).1
theorem Bx.cell {T : TypeId} {g : Nat} {cs : Array Value} {w : World} (h : Bx T g cs w) (i : Nat) : w.cell? ⟨g, i, none⟩ = cs[i]? := by rw [Lib.cell_of_heap h.blk]
theorem Bx.frozen {T : TypeId} {g : Nat} {cs : Array Value} {w : World} (h : Bx T g cs w) (i : Nat) : w.frozen? ⟨g, i, none⟩ = false := Lib.frozen_of_heap h.blk i
theorem Bx.set {T : TypeId} {g : Nat} {cs : Array Value} {w : World} (h : Bx T g cs w) (i : Nat) (v : Value) : Bx T g (cs.setIfInBounds i v) (w.setCell ⟨g, i, none⟩ v) := ⟨ow_set_heap i v h.blk⟩
theorem Bx.new (T : TypeId) (cs : Array Value) (w : World) : Bx T w.heap.size cs (w.alloc (.cells cs T)) := ⟨heap_alloc_new w _⟩
theorem Bx.five {T : TypeId} {g : Nat} {w : World} {v0 v1 v2 v3 v4 : Value} (h : Bx T g #[v0, v1, v2, v3, v4] w) : (w.cell? ⟨g, 0, none⟩ = some v0 ∧ w.cell? ⟨g, 1, none⟩ = some v1 ∧ w.cell? ⟨g, 2, none⟩ = some v2 ∧ w.cell? ⟨g, 3, none⟩ = some v3 ∧ w.cell? ⟨g, 4, none⟩ = some v4) ∧
    (w.frozen? ⟨g, 0, none⟩ = false ∧ w.frozen? ⟨g, 1, none⟩ = false ∧ w.frozen? ⟨g, 2, none⟩ = false ∧ w.frozen? ⟨g, 3, none⟩ = false ∧ w.frozen? ⟨g, 4, none⟩ = false) :=
  ⟨⟨h.cell 0, h.cell 1, h.cell 2, h.cell 3, h.cell 4⟩, h.frozen 0, h.frozen 1, h.frozen 2, h.frozen 3, h.frozen 4⟩
theorem Bx.four {T : TypeId} {g : Nat} {w : World} {v0 v1 v2 v3 : Value} (h : Bx T g #[v0, v1, v2, v3] w) : (w.cell? ⟨g, 0, none⟩ = some v0 ∧ w.cell? ⟨g, 1, none⟩ = some v1 ∧ w.cell? ⟨g, 2, none⟩ = some v2 ∧ w.cell? ⟨g, 3, none⟩ = some v3) ∧
    (w.frozen? ⟨g, 0, none⟩ = false ∧ w.frozen? ⟨g, 1, none⟩ = false ∧ w.frozen? ⟨g, 2, none⟩ = false ∧ w.frozen? ⟨g, 3, none⟩ = false) :=
  ⟨⟨h.cell 0, h.cell 1, h.cell 2, h.cell 3⟩, h.frozen 0, h.frozen 1, h.frozen 2, h.frozen 3⟩
/-- All cells of a box are stored. -/
def set4 (g : Nat) (v0 v1 v2 v3 : Value) (w : World) : World := (((w.setCell ⟨g, 0, none⟩ v0).setCell ⟨g, 1, none⟩ v1).setCell ⟨g, 2, none⟩ v2).setCell ⟨g, 3, none⟩ v3
def set5 (g : Nat) (v0 v1 v2 v3 v4 : Value) (w : World) : World := (set4 g v0 v1 v2 v3 w).setCell ⟨g, 4, none⟩ v4
theorem set5_fold (g : Nat) (v0 v1 v2 v3 v4 : Value) (w : World) : ((((w.setCell ⟨g, 0, none⟩ v0).setCell ⟨g, 1, none⟩ v1).setCell ⟨g, 2, none⟩ v2).setCell ⟨g, 3, none⟩ v3).setCell ⟨g, 4, none⟩ v4 = set5 g v0 v1 v2 v3 v4 w := rfl
theorem set4_fold (g : Nat) (v0 v1 v2 v3 : Value) (w : World) : (((w.setCell ⟨g, 0, none⟩ v0).setCell ⟨g, 1, none⟩ v1).setCell ⟨g, 2, none⟩ v2).setCell ⟨g, 3, none⟩ v3 = set4 g v0 v1 v2 v3 w := rfl
theorem set4_but (g : Nat) (v0 v1 v2 v3 : Value) (w : World) : But [g] w (set4 g v0 v1 v2 v3 w) :=
  (((But.setCell ⟨g, 0, none⟩ _ (by simp)).then (But.setCell ⟨g, 1, none⟩ _ (by simp))).then (But.setCell ⟨g, 2, none⟩ _ (by simp))).then (But.setCell ⟨g, 3, none⟩ _ (by simp))
theorem set5_but (g : Nat) (v0 v1 v2 v3 v4 : Value) (w : World) : But [g] w (set5 g v0 v1 v2 v3 v4 w) := (set4_but g v0 v1 v2 v3 w).then (But.setCell ⟨g, 4, none⟩ _ (by simp))
theorem Bx.set4 {T : TypeId} {g : Nat} {w : World} {u0 u1 u2 u3 : Value} (h : Bx T g #[u0, u1, u2, u3] w) (v0 v1 v2 v3 : Value) : Bx T g #[v0, v1, v2, v3] (set4 g v0 v1 v2 v3 w) := by
  have := (((h.set 0 v0).set 1 v1).set 2 v2).set 3 v3
  rw [show (((((#[u0, u1, u2, u3] : Array Value).setIfInBounds 0 v0).setIfInBounds 1 v1).setIfInBounds 2 v2).setIfInBounds 3 v3) = #[v0, v1, v2, v3] by simp] at this
  exact this
theorem Bx.set5 {T : TypeId} {g : Nat} {w : World} {u0 u1 u2 u3 u4 : Value} (h : Bx T g #[u0, u1, u2, u3, u4] w) (v0 v1 v2 v3 v4 : Value) : Bx T g #[v0, v1, v2, v3, v4] (set5 g v0 v1 v2 v3 v4 w) := by
  have := ((((h.set 0 v0).set 1 v1).set 2 v2).set 3 v3).set 4 v4
  rw [show ((((((#[u0, u1, u2, u3, u4] : Array Value).setIfInBounds 0 v0).setIfInBounds 1 v1).setIfInBounds 2 v2).setIfInBounds 3 v3).setIfInBounds 4 v4) = #[v0, v1, v2, v3, v4] by simp] at this
  exact this
/-- A box of one's own, stored into: what was there stays. -/
theorem Ev.box {w w1 w2 : World} {g : Nat} (h : Ev w w1) (hb : But [g] w1 w2) (hg : w.heap.size ≤ g) : Ev w w2 :=
  ((But.of_ev (K := [g]) h).then hb).ev fun k hk => by simp at hk; omega

theorem results_cell1 {P : Program} {fn : Func} {p : Tmp} {ty : TypeId} (h : fn.results = #[.cell p ty]) (tmps : Array Value) (w : World) (g : Nat) (cs : Array Value) (d : TypeDesc)
    (hp : tmps.getD p undef = .pointer (some ⟨g, 0, none⟩)) (hg : Bx ty g cs w)
    (hu : P.underlying ty = some d) (hd : (match d with | .struct _ | .array _ _ => true | _ => false) = true) (hi : (P.info? ty).map (·.size) = some cs.size) :
    (results fn tmps).run P w = .ok (.agg cs) w := by
  have hp' : tmps[p]?.getD undef = .pointer (some ⟨g, 0, none⟩) := by simpa using hp
  simp [results, h, hp', asAddr, run_loadVar_row w g ty ty cs (0, 0) d hg.blk hu hd hi]
theorem results_cell2' {P : Program} {fn : Func} {p u1 u2 : Tmp} {ty : TypeId} (h : fn.results = #[.cell p ty, .tmp u1, .tmp u2]) (tmps : Array Value) (w : World) (g : Nat) (cs : Array Value) (d : TypeDesc)
    (hp : tmps.getD p undef = .pointer (some ⟨g, 0, none⟩)) (hg : Bx ty g cs w)
    (hu : P.underlying ty = some d) (hd : (match d with | .struct _ | .array _ _ => true | _ => false) = true) (hi : (P.info? ty).map (·.size) = some cs.size) :
    (results fn tmps).run P w = .ok (.tuple #[.agg cs, tmps.getD u1 undef, tmps.getD u2 undef]) w :=
  results_cell2 h tmps w g ty cs (0, 0) d hp hg.blk hu hd hi
theorem sxText_n : ∀ (N : Nat) (r b : By) (i : Nat), r.length ≤ N → (sxTextGo b r i).n = 0 := by
  intro N
  induction N with
  | zero =>
    intro r b i h
    have : r = [] := List.eq_nil_of_length_eq_zero (by omega)
    subst this
    rfl
  | succ N ih =>
    intro r b i h
    cases r with
    | nil => rfl
    | cons c q =>
      simp at h
      unfold sxTextGo
      split
      · exact ih q _ _ h
      · split
        · split
          · rfl
          · rename_i x q1
            simp at h
            split
            · rfl
            · split
              · rfl
              · rename_i y q2
                simp at h
                split
                · rfl
                · exact ih q2 _ _ (by omega)
        · split
          · split <;> rfl
          · rfl

end Go.Proofs.YtojbahjebfcmgaaGreatDoor

namespace Go.Proofs.YtojbahjebfcmgaaGreatDoor
open Go.RowKit
set_option linter.unusedVariables false

/-- The operations. -/
def bAdd : By := [97, 100, 100]
def bSub : By := [115, 117, 98]
def bMul : By := [109, 117, 108]
def bEq : By := [101, 113]
def bLt : By := [108, 116]
def bAnd : By := [97, 110, 100]
def bOr : By := [111, 114]
def bCat : By := [99, 97, 116]
def bNeg : By := [110, 101, 103]
def bNot : By := [110, 111, 116]
def bLen : By := [108, 101, 110]
def bIf : By := [105, 102]
def xTwo (s : By) : Bool := s == bAdd || s == bSub || s == bMul || s == bEq || s == bLt || s == bAnd || s == bOr || s == bCat
def xOne (s : By) : Bool := s == bNeg || s == bNot || s == bLen
def xTakes (s : By) : Nat := if xTwo s then 2 else if xOne s then 1 else if s == bIf then 3 else 0
def bstr (s : By) : ByteArray := ⟨s.toArray⟩
abbrev xName (s : By) : Bool := nameV (bstr s)
/-- P8.1: the expression of a tree, or why there is none, and where. An expression is a tree without places. -/
abbrev XRes := T × Int × Nat
def xBad (why : Int) (pos : Nat) : XRes := (sxZero, why, pos)
/-- The operands' results, one behind the other. -/
def xReads (s : By) (done : List T) : List XRes → XRes
  | [] => (.mk 4 s 0 done 0, 0, 0)
  | r :: l => if r.2.1 == 0 then xReads s (done ++ [r.1]) l else (sxZero, r.2.1, r.2.2)
mutual
def xRead : T → XRes
  | .mk k s n l p =>
    if k == 2 then (if xName s then (.mk 1 s 0 [] 0, 0, 0) else xBad 20 p)
    else if k == 3 then (.mk 2 [] n [] 0, 0, 0)
    else if k == 4 then (.mk 3 s 0 [] 0, 0, 0)
    else if k == 1 then
      (match l with
        | [] => xBad 12 p
        | h :: q => if h.kind == 2 && !(xTakes h.s == 0) then
            (if q.length == xTakes h.s then xReads h.s [] (xReadAll q) else xBad 23 p) else xBad 12 p)
    else xBad 12 p
def xReadAll : List T → List XRes
  | [] => []
  | t :: l => xRead t :: xReadAll l
end
/-- Is it none of what Read makes, whatever its Kids are? -/
def xForeign (e : T) : Bool :=
  if e.kind == 1 then !xName e.s || !(e.n == 0) || !e.kids.isEmpty
  else if e.kind == 2 then !e.s.isEmpty || !e.kids.isEmpty
  else if e.kind == 3 then !(e.n == 0) || !e.kids.isEmpty
  else if e.kind == 4 then xTakes e.s == 0 || !(e.n == 0) || !(e.kids.length == xTakes e.s)
  else true
mutual
def xRight : T → Bool
  | .mk k s n l p => !xForeign (.mk k s n l p) && xRights l
def xRights : List T → Bool
  | [] => true
  | t :: l => xRight t && xRights l
end
mutual
def T.size : T → Nat
  | .mk _ _ _ l _ => T.sizes l + 1
def T.sizes : List T → Nat
  | [] => 0
  | t :: l => t.size + T.sizes l
end
def v0 : V := (0, 0, ⟨#[]⟩)
/-- An expression's cells; it in memory, all of it in blocks that are not of K. -/
def ec (m : M) : List Value := [.int .i64 m.kind, .string ⟨m.s.toArray⟩, .int .i64 m.n, m.kv]
def ev_ (m : M) : Value := .agg #[.int .i64 m.kind, .string ⟨m.s.toArray⟩, .int .i64 m.n, m.kv]
abbrev Es := Sl 4 ec
theorem encE : Enc 4 ec := ⟨by omega, fun _ => rfl, fun x u hu => by
  simp [ec, M.kv] at hu
  rcases hu with rfl | rfl | rfl | rfl <;> rfl⟩
inductive Lx (b0 : Nat) (K : List Nat) (w : World) : M → Prop
  | mk {kind : Int} {s : By} {n : Int} {A : Option Addr} {cap : Nat} {kids : List M} {pos : Nat} : Es w A kids.length cap kids → (∀ ad, A = some ad → b0 ≤ ad.block ∧ ad.block < w.heap.size ∧ ad.block ∉ K) → (∀ k ∈ kids, Lx b0 K w k) →
      Lx b0 K w (.mk kind s n A cap kids pos)
theorem Lx.es {b0 : Nat} {K : List Nat} {w : World} {m : M} (h : Lx b0 K w m) : Es w m.A m.kids.length m.cap m.kids := by
  cases h with
  | mk h1 h2 h3 => exact h1
theorem Lx.kid {b0 : Nat} {K : List Nat} {w : World} {m : M} (h : Lx b0 K w m) : ∀ k ∈ m.kids, Lx b0 K w k := by
  cases h with
  | mk h1 h2 h3 => exact h3
theorem Lx.move {b0 : Nat} {K K' : List Nat} {w w' : World} {m : M} (h : Lx b0 K w m) (hb : But K w w') (hs : ∀ x ∈ K', x ∈ K ∨ x < b0 ∨ w.heap.size ≤ x) : Lx b0 K' w' m := by
  induction h with
  | mk h1 h2 h3 ih =>
    refine .mk (h1.but hb fun ad e => (h2 ad e).2.2) (fun ad e => ⟨(h2 ad e).1, Nat.lt_of_lt_of_le (h2 ad e).2.1 hb.size, fun hm => ?_⟩) ih
    rcases hs _ hm with h4 | h4 | h4
    · exact (h2 ad e).2.2 h4
    · have := (h2 ad e).1; omega
    · have := (h2 ad e).2.1; omega
theorem Lx.ev {b0 : Nat} {K : List Nat} {w w' : World} {m : M} (h : Lx b0 K w m) (hE : Ev w w') : Lx b0 K w' m := h.move (But.of_ev hE) fun _ hx => .inl hx
theorem Lx.low {b0 b1 : Nat} {K : List Nat} {w : World} {m : M} (h : Lx b1 K w m) (hb : b0 ≤ b1) : Lx b0 K w m := by
  induction h with
  | mk h1 h2 h3 ih => exact .mk h1 (fun ad e => ⟨Nat.le_trans hb (h2 ad e).1, (h2 ad e).2⟩) ih
theorem Lx.less {b0 : Nat} {K K' : List Nat} {w : World} {m : M} (h : Lx b0 K w m) (hs : ∀ x ∈ K', x ∈ K ∨ x < b0 ∨ w.heap.size ≤ x) : Lx b0 K' w m := h.move (But.refl _ _) hs
theorem Lx.leaf {b0 : Nat} {K : List Nat} {w : World} {k : Int} {s : By} {n : Int} {p : Nat} : Lx b0 K w (.mk k s n none 0 [] p) := .mk (Sl.nil_ w) (fun _ h => by cases h) (fun _ h => by cases h)
/-- Expression i of a slice. -/
theorem Es.cell {w : World} {A : Option Addr} {n cap : Nat} {l : List M} (h : Es w A n cap l) {i : Nat} {x : M} (hx : l[i]? = some x) : ∃ b off, A = some ⟨b, off, none⟩ ∧ b < w.heap.size ∧
    w.cell? ⟨b, off + i * 4, none⟩ = some (.int .i64 x.kind) ∧ w.cell? ⟨b, off + i * 4 + 1, none⟩ = some (.string ⟨x.s.toArray⟩) ∧ w.cell? ⟨b, off + i * 4 + 2, none⟩ = some (.int .i64 x.n) ∧ w.cell? ⟨b, off + i * 4 + 3, none⟩ = some x.kv := by
  have hi := (List.getElem?_eq_some_iff.1 hx).1
  have hl := h.len
  obtain ⟨b, off, e, hlt, hc⟩ := h.rd (by omega)
  exact ⟨b, off, e, hlt, hc i x hx 0 _ rfl, hc i x hx 1 _ rfl, hc i x hx 2 _ rfl, hc i x hx 3 _ rfl⟩
-- How deep, how many parts.
mutual
def M.dep : M → Nat
  | .mk _ _ _ _ _ l _ => M.deps l + 1
def M.deps : List M → Nat
  | [] => 0
  | m :: l => max m.dep (M.deps l)
end
theorem M.dep_kid : ∀ (l : List M) (k : M), k ∈ l → k.dep ≤ M.deps l
  | [], k, h => by cases h
  | m :: l, k, h => by
    rcases List.mem_cons.1 h with rfl | h
    · simp [M.deps]; omega
    · have := M.dep_kid l k h
      simp [M.deps]; omega
theorem M.dep_eq (m : M) : m.dep = M.deps m.kids + 1 := by cases m; rfl
theorem M.kid_dep {m k : M} (h : k ∈ m.kids) : k.dep < m.dep := by
  have := M.dep_kid m.kids k h
  rw [M.dep_eq m]
  omega
theorem M.t_s (m : M) : m.t.s = m.s := by rw [M.t_eq]; rfl
theorem M.t_n (m : M) : m.t.n = m.n := by rw [M.t_eq]; rfl
theorem xReadAll_map : ∀ l : List T, xReadAll l = l.map xRead
  | [] => rfl
  | t :: l => by simp [xReadAll, xReadAll_map l]
theorem xRights_all : ∀ l : List T, xRights l = l.all xRight
  | [] => rfl
  | t :: l => by simp [xRights, xRights_all l]
theorem T.sizes_sum : ∀ l : List T, T.sizes l = (l.map T.size).sum
  | [] => rfl
  | t :: l => by simp [T.sizes, T.sizes_sum l]
end Go.Proofs.YtojbahjebfcmgaaGreatDoor

namespace Go.Proofs.YtojbahjebfcmgaaGreatDoor
open Go.RowKit
set_option linter.unusedVariables false

theorem alike_at {x y : M} (h : x.t = y.t) : y.kind = x.kind ∧ y.s = x.s ∧ y.n = x.n ∧ y.kids.length = x.kids.length ∧ x.kids.map M.t = y.kids.map M.t := by
  rw [M.t_eq, M.t_eq y] at h
  injection h with h1 h2 h3 h4 h5
  have h6 := congrArg List.length h4
  rw [List.length_map, List.length_map] at h6
  exact ⟨h1.symm, h2.symm, h3.symm, h6.symm, h4⟩

end Go.Proofs.YtojbahjebfcmgaaGreatDoor
