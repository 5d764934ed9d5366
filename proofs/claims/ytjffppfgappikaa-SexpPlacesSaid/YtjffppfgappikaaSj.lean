/-
  Package sexp: take.
-/
import Derived.Test.YtjffppfgappikaaSi
import Derived.Deep.RegionWith
namespace Go.Proofs.Ytjffppfgappikaa
open Go.RowKit
set_option linter.unusedVariables false

/-- append of one tree onto a row of the call's own. -/
theorem wpList_append_m {P : Program} {w : World} {ops : Array Oper} {rest : List Oper} {o : Oper} {a : Act} {Q : Exit → Act → World → Prop} (hgd : o.guard = none) (s x : Operand)
    (hop : o.op = .call { callee := .builtin .append, args := #[s, x], argTypes := #[22, 22] })
    (ht : P.underlying 22 = some (.slice 24)) (hi : (P.info? 24).map (fun i => (i.zero, i.size, i.bytes)) = some (some (.agg #[.int .i64 0, .string ⟨#[]⟩, .int .i64 0, .slice none 0 0, .int .i64 0]), 5, 64))
    (base : Nat) (v : Value) (n : Nat) (xs : List Value) (hs : a.eval s = v) (hown : w.ownsRow base 24 5 v n xs) (b c : Nat) (hx : a.eval x = .slice (some ⟨b, 0, none⟩) 1 c) (m : M)
    (hm : ∀ j u, (mc m)[j]? = some u → w.cell? ⟨b, j, none⟩ = some u) (hn : n ≤ 1000000) (hbase : base ≤ w.heap.size)
    (h : ∀ v' w', w'.ownsRow base 24 5 v' (n + 1) (xs ++ mc m) → w.grownBy w' v.ownBlock → (v'.ownBlock = v.ownBlock ∨ v'.ownBlock = some w.heap.size) → wpList P ops Q rest (a.put o.dst v') w') : wpList P ops Q (o :: rest) a w := by
  refine wpList_plain hgd fun K hK => ?_
  obtain ⟨i, hi0, hz, hsz, hby⟩ := info_parts hi
  obtain ⟨v', w', hr, h1, h2, _, h4⟩ := run_append_own_at (P := P) w base 22 o.type 24 i _ 5 64 ht hi0 hz hsz hby rfl (by decide) v n xs hown ⟨b, 0, none⟩ 1 c (mc m) rfl (fun j u hu => by rw [Addr.add_lit, Nat.zero_add]; exact hm j u hu)
    (fun u hu => mlist_ones [m] u (by rw [mlist_one_]; exact hu)) (by unfold maxLen; omega) (by omega) hbase
  unfold Oper.wp execOp
  simp only [hop, resolve, invoke, builtin, Sem.run_bind, Sem.run_pure, Result.andThen_ok, List.map_toArray, List.map_cons, List.map_nil, hs, hx, hr]
  exact hK _ _ (h v' w' h1 h2 h4)

/-- A token's tree. -/
def mtok (k : Int) (s : By) (n : Int) (p : Nat) : M := .mk k s n none 0 [] p
theorem Lies.tok (b0 : Nat) (K : List Nat) (w : World) (k : Int) (s : By) (n : Int) (p : Nat) : Lies b0 K w (mtok k s n p) := .mk (Sl.nil_ w) (fun _ h => by cases h) (fun _ h => by cases h)
theorem Opn.pop {base : Nat} {w : World} {vb q vcap : Nat} {os : List M} {e : M} (h : Opn base w (.slice (some ⟨vb, 0, none⟩) (q + 1) vcap) (os ++ [e])) (hq : os.length = q) :
    Opn base w (.slice (some ⟨vb, 0, none⟩) q vcap) os ∧ Lies base (blk (.slice (some ⟨vb, 0, none⟩) q vcap) os) w e ∧ (∀ x ∈ blk (.slice (some ⟨vb, 0, none⟩) q vcap) os, x ∈ blk (.slice (some ⟨vb, 0, none⟩) (q + 1) vcap) (os ++ [e])) := by
  subst hq
  have hnd := h.nd
  rw [blk_snoc] at hnd
  have hnd3 := List.nodup_append.1 hnd
  have hbe : blk (.slice (some ⟨vb, 0, none⟩) os.length vcap) os = blk (.slice (some ⟨vb, 0, none⟩) (os.length + 1) vcap) os := rfl
  have hsub : ∀ x ∈ blk (.slice (some ⟨vb, 0, none⟩) os.length vcap) os, x ∈ blk (.slice (some ⟨vb, 0, none⟩) (os.length + 1) vcap) (os ++ [e]) := fun x hx => by
    rw [blk_snoc]
    exact List.mem_append_left _ hx
  have hlies : ∀ m, Lies base (blk (.slice (some ⟨vb, 0, none⟩) (os.length + 1) vcap) (os ++ [e])) w m → Lies base (blk (.slice (some ⟨vb, 0, none⟩) os.length vcap) os) w m := fun m hm => hm.less fun x hx => .inl (hsub x hx)
  refine ⟨⟨?_, fun e0 he0 => h.kid e0 (List.mem_append_left _ he0), by rw [hbe]; exact hnd3.1, fun e0 he0 m hm => hlies m (h.lies e0 (List.mem_append_left _ he0) m hm)⟩, ?_, hsub⟩
  · rcases h.own.2 with ⟨hv, _⟩ | ⟨g', cap', cur, hv, hb, hh, hnc, hcm, hcs, ht⟩
    · cases hv
    · injection hv with h1 h2 h3
      injection h1 with h1
      injection h1 with h1 _ _
      subst h1
      subst h3
      have hlen : (os ++ [e]).length = os.length + 1 := by simp
      rw [hlen, mlist_append] at ht
      rw [hlen] at hnc
      refine ⟨by rw [mlist_length], .inr ⟨vb, vcap, cur, rfl, hb, hh, by omega, hcm, hcs, ?_⟩⟩
      have := congrArg (List.take (os.length * 5)) ht
      rw [List.take_take, Nat.min_eq_left (by omega), List.take_left' (mlist_length os)] at this
      exact this
  · have hk := h.kid e (by simp)
    obtain ⟨k, s, n, A, c, l, p⟩ := e
    refine .mk (own_ms hk) (fun ad hA => ?_) fun m hm => hlies m (h.lies (.mk k s n A c l p) (by simp) m hm)
    subst hA
    have hown : (M.kv (.mk k s n (some ad) c l p)).ownBlock = some ad.block := rfl
    refine ⟨(hk.lt _ hown).1, (hk.lt _ hown).2, fun hm => ?_⟩
    rw [hbe] at hm
    exact hnd3.2.2 _ hm _ (mem_foot.2 hown) rfl
theorem snoc_of {α : Type} (l : List α) (h : l ≠ []) : ∃ l' a, l = l' ++ [a] := ⟨l.dropLast, l.getLast h, (List.dropLast_concat_getLast h).symm⟩

theorem foot_own {v v1 : Value} (h : v1.ownBlock = v.ownBlock) : foot v1 = foot v := by unfold foot; rw [h]
theorem Opn.push {base : Nat} {w w2 : World} {v v1 : Value} {os : List M} {q : Nat} {k : Int} {s : By} {n : Int} {p : Nat} (h : Opn base w v os) (hq : q = os.length) (h1 : w2.ownsRow base 24 5 v1 (q + 1) (mlist os ++ mc (mtok k s n p))) (B : But (foot v) w w2)
    (h3 : v1.ownBlock = v.ownBlock ∨ ∃ g, v1.ownBlock = some g ∧ w.heap.size ≤ g) : Opn base w2 v1 (os ++ [mtok k s n p]) ∧ (∀ x ∈ blk v1 (os ++ [mtok k s n p]), x ∈ blk v os ∨ w.heap.size ≤ x) := by
  subst hq
  have hnd3 := List.nodup_append.1 (show (foot v ++ os.flatMap fun e => foot e.kv).Nodup from h.nd)
  have hbe : blk v1 (os ++ [mtok k s n p]) = foot v1 ++ os.flatMap fun e => foot e.kv := by
    rw [blk_snoc, show foot (mtok k s n p).kv = [] from rfl, List.append_nil]
    rfl
  have hsub : ∀ x ∈ blk v1 (os ++ [mtok k s n p]), x ∈ blk v os ∨ w.heap.size ≤ x := fun x hx => by
    rw [hbe] at hx
    rcases List.mem_append.1 hx with h4 | h4
    · rcases h3 with h5 | ⟨g, h5, h6⟩
      · rw [foot_own h5] at h4
        exact .inl (List.mem_append_left _ h4)
      · have := mem_foot.1 h4
        rw [h5] at this
        simp at this
        exact .inr (by omega)
    · exact .inl (List.mem_append_right _ h4)
  refine ⟨⟨by rw [mlist_append, mlist_one_, show (os ++ [mtok k s n p]).length = os.length + 1 by simp]; exact h1, fun e he => ?_, ?_, fun e he m hm => ?_⟩, hsub⟩
  · rcases List.mem_append.1 he with h4 | h4
    · exact own_but (h.kid e h4) B fun g hg hm => hnd3.2.2 _ hm _ (List.mem_flatMap.2 ⟨e, h4, mem_foot.2 hg⟩) rfl
    · simp at h4
      subst h4
      exact World.ownsRow_nil _ _ _ _
  · rw [hbe, List.nodup_append]
    refine ⟨?_, hnd3.2.1, fun a ha b hb => ?_⟩
    · unfold foot
      cases v1.ownBlock <;> simp
    · rcases h3 with h5 | ⟨g, h5, h6⟩
      · rw [foot_own h5] at ha
        exact hnd3.2.2 a ha b hb
      · have h7 := mem_foot.1 ha
        rw [h5] at h7
        simp at h7
        have h8 := (h.range (g := b) (List.mem_append_right _ hb)).2
        omega
  · rcases List.mem_append.1 he with h4 | h4
    · exact (h.lies e h4 m hm).move (B.wide fun x hx => .inl (List.mem_append_left _ hx)) (fun x hx => (hsub x hx).imp id .inr)
    · simp at h4
      subst h4
      cases hm

/-- What take leaves. -/
def TakeOut (base : Nat) (v : Value) (os : List M) (t : T) (w : World) (r : Ending) (w' : World) : Prop :=
  ∃ v' os', r = .returned v' ∧ Opn base w' v' os' ∧ os'.map M.t = sxTake (os.map M.t) t ∧ os' ≠ [] ∧ But (blk v os) w w' ∧ (∀ x ∈ blk v' os', x ∈ blk v os ∨ w.heap.size ≤ x)

set_option maxRecDepth 100000 in
set_option maxHeartbeats 4000000 in
theorem sx_take {base : Nat} {v : Value} {os : List M} (w : World) (h : Opn base w v os) (h0 : os ≠ []) (k : Int) (s : By) (n : Int) (p : Nat) (hk : k = -1 → 2 ≤ os.length) (hl : os.length ≤ 1000000) (hkl : ∀ e ∈ os, e.kids.length ≤ 1000000) :
    Calls Try.prog 13 #[v, mv (mtok k s n p)] w (TakeOut base v os (mtok k s n p).t w) := by
  obtain ⟨vb, vcap, rfl, hle, hmx, hvb, hlt, _, _⟩ := h.at h0
  obtain ⟨w0, hw0⟩ : ∃ w0, w0 = w.alloc (.cells (mc (mtok k s n p)).toArray 24) := ⟨_, rfl⟩
  have hE0 : Ev w w0 := hw0 ▸ Ev.alloc w _
  have hb : w0.heap[w.heap.size]? = some (.cells (mc (mtok k s n p)).toArray 24 (0, 0)) := by rw [hw0]; exact heap_alloc_new _ _
  have h' := h.ev hE0
  have hck : ∀ j u, (mc (mtok k s n p))[j]? = some u → w0.cell? ⟨w.heap.size, j, none⟩ = some u := fun j u hu => by rw [Lib.cell_of_heap hb]; simpa using hu
  have b0 : w0.cell? ⟨w.heap.size, 0, none⟩ = some (.int .i64 k) := hck 0 _ rfl
  have b1 : w0.cell? ⟨w.heap.size, 1, none⟩ = some (.string ⟨s.toArray⟩) := hck 1 _ rfl
  have b2 : w0.cell? ⟨w.heap.size, 2, none⟩ = some (.int .i64 n) := hck 2 _ rfl
  have b3 : w0.cell? ⟨w.heap.size, 3, none⟩ = some (.slice none 0 0) := hck 3 _ rfl
  have b4 : w0.cell? ⟨w.heap.size, 4, none⟩ = some (.int .i64 (p : Int)) := hck 4 _ rfl
  have hw0' : w.alloc (.cells #[.int .i64 k, .string ⟨s.toArray⟩, .int .i64 n, .slice none 0 0, .int .i64 (p : Int)] 24) = w0 := hw0.symm
  have hmv : mv (mtok k s n p) = .agg #[.int .i64 k, .string ⟨s.toArray⟩, .int .i64 n, .slice none 0 0, .int .i64 (p : Int)] := rfl
  have hlw : w.heap.size < w0.heap.size := by rw [hw0]; simp
  have hT : (mtok k s n p).t.kind = k := by rw [M.t_kind]; rfl
  clear hb hck hw0
  rw [hmv]
  by_cases k1 : k = 1
  · subst k1
    have hTk : sxTake (os.map M.t) (mtok 1 s n p).t = os.map M.t ++ [(mtok 1 s n p).t] := by unfold sxTake; rw [hT]; rfl
    obtain ⟨q, hq⟩ : ∃ q, q = os.length := ⟨_, rfl⟩
    rw [← hq] at h h' hle hl ⊢
    have HH := Lib.hid h'
    have HQ := Lib.hid hq
    have HTk := Lib.hid hTk
    have hE1 : Ev w0 (w0.alloc (.cells #[.int .i64 1, .string ⟨s.toArray⟩, .int .i64 n, .slice none 0 0, .int .i64 (p : Int)] 24)) := Ev.alloc _ _
    have HZ : Hid (∀ j u, (mc (mtok 1 s n p))[j]? = some u → (w0.alloc (.cells #[.int .i64 1, .string ⟨s.toArray⟩, .int .i64 n, .slice none 0 0, .int .i64 (p : Int)] 24)).cell? ⟨w0.heap.size, j, none⟩ = some u) := Lib.hid fun j u hu => by
      rw [Lib.cell_of_heap (heap_alloc_new w0 _)]
      simpa [mc, mtok, M.kind, M.s, M.n, M.kv, M.A, M.kids, M.cap, M.pos] using hu
    have hbw : base ≤ w0.heap.size := by have := h'.range (g := vb) (mem_blk.2 (.inl rfl)); omega
    clear hq hTk hT h'
    go_enter Try.func13, Try.ntmps13
    go_wp2_with (first
      | ((show wpList _ _ _ (⟨some 19, _, _, _, _, _⟩ :: _) _ _); refine wpList_append_m (o := ⟨some 19, _, _, _, _, _⟩) rfl (.tmp 16) (.tmp 18) rfl Try.underlying22 Try.infoTree base (.slice (some ⟨vb, 0, none⟩) q vcap) q (mlist os) rfl (by have := (HH.out.ev hE1).own; rwa [← HQ.out] at this) w0.heap.size 1 rfl (mtok 1 s n p) HZ.out hl (Nat.le_trans hbw hE1.size) ?_; intro v1 w1 h1 h2 h3; obtain ⟨A1, n1, cap1, rfl⟩ : ∃ A1 n1 cap1, v1 = .slice A1 n1 cap1 := (by rcases h1.2 with ⟨rfl, _⟩ | ⟨g, cap, cur, rfl, _⟩ <;> exact ⟨_, _, _, rfl⟩)))
    go_ret
    have hB : But (foot (.slice (some ⟨vb, 0, none⟩) q vcap)) w w1 := ((But.of_ev hE0).then (But.of_ev hE1)).then (But.grown h2 fun g hg => mem_foot.2 hg)
    have hP := Opn.push (k := 1) (s := s) (n := n) (p := p) h HQ.out h1 hB (by
      rcases h3 with h4 | h4
      · exact .inl h4
      · exact .inr ⟨_, h4, Nat.le_trans hE0.size hE1.size⟩)
    exact ⟨_, _, rfl, hP.1, by rw [HTk.out]; simp, by simp, hB.wide fun x hx => .inl (List.mem_append_left _ hx), hP.2⟩
  · have k1' : (k == 1) = false := beq_eq_false_iff_ne.2 k1
    by_cases k2 : k = -1
    · subst k2
      obtain ⟨os0, e, rfl⟩ := snoc_of os h0
      have h00 : os0 ≠ [] := by
        intro h5
        subst h5
        have := hk rfl
        simp at this
      obtain ⟨os1, e1, rfl⟩ := snoc_of os0 h00
      have hTk : sxTake ((os1 ++ [e1] ++ [e]).map M.t) (mtok (-1) s n p).t = os1.map M.t ++ [e1.t.add e.t] := by
        unfold sxTake
        rw [hT]
        simp only [List.map_append, List.map_cons, List.map_nil, List.getLast?_append, List.getLast?_singleton, List.dropLast_concat]
        exact sxPut_snoc _ _ _
      have HTk := Lib.hid hTk
      obtain ⟨q, hq⟩ : ∃ q, (os1 ++ [e1]).length = q := ⟨_, rfl⟩
      have hq1 : 1 ≤ q := by rw [← hq]; simp
      have hlen : (os1 ++ [e1] ++ [e]).length = q + 1 := by rw [List.length_append, hq]; rfl
      rw [hlen] at h h' hle hl ⊢
      obtain ⟨hp1, hp2, hp3⟩ := h'.pop hq
      obtain ⟨_, _, hvv, _, _, _, _, hfr, hc⟩ := h'.at (by simp)
      injection hvv with hv1 hv2 hv3
      injection hv1 with hv1
      injection hv1 with hv1 _ _
      subst hv1
      subst hv3
      clear hv2
      obtain ⟨c0, c1, c2, c3, c4⟩ := hc q e (by rw [← hq]; simp)
      have HP := fun w1 (hE : Ev w0 w1) => sx_put w1 (hp1.ev hE) (hp2.ev hE) (hkl e1 (by simp))
      unfold mv at HP
      have HP := Lib.hid HP
      have hltw : vb < w0.heap.size := Nat.lt_of_lt_of_le hlt hE0.size
      have i1 : (0 : Int) ≤ (q : Int) := by omega
      have i2 : (q : Int) < (q : Int) + 1 := by omega
      have i3 : (q : Int) ≤ (vcap : Int) := by omega
      have i4 : q ≤ vcap := by omega
      have i5 : ¬ (vcap < q) := by omega
      have HS3 := Lib.hid hp3
      have hBk : Hid (∀ w3, But (blk (.slice (some ⟨vb, 0, none⟩) q vcap) (os1 ++ [e1])) w0.drew w3 → But (blk (.slice (some ⟨vb, 0, none⟩) (q + 1) vcap) (os1 ++ [e1] ++ [e])) w w3) := Lib.hid fun w3 hb' => (But.of_ev (hE0.trans (Ev.drew w0))).then (hb'.wide fun x hx => .inl (hp3 x hx))
      clear hTk hT h' hp1 hp2 hc hfr hq hkl hk hlen hp3
      go_enter Try.func13, Try.ntmps13
      go_wp2_with fail
      go_region_with (first | ((with_reducible refine (HP.out _ (Ev.drew _)).mono ?_); rintro r w3 ⟨rfl, e', he', ho', hb', hs'⟩))
      all_goals (go_wp2; go_ret; exact ⟨_, _, rfl, ho', by rw [HTk.out]; simp [he'], by simp, hBk.out _ hb', fun x hx => (hs' x hx).imp (HS3.out x) (fun h5 => Nat.le_trans hE0.size h5)⟩)
    · have k2' : (k == -1) = false := beq_eq_false_iff_ne.2 k2
      obtain ⟨os1, e1, rfl⟩ := snoc_of os h0
      have hTk : sxTake ((os1 ++ [e1]).map M.t) (mtok k s n p).t = os1.map M.t ++ [e1.t.add (mtok k s n p).t] := by
        unfold sxTake
        rw [hT]
        simp only [k1', k2', List.map_append, List.map_cons, List.map_nil, Bool.false_eq_true, if_false]
        exact sxPut_snoc _ _ _
      have HTk := Lib.hid hTk
      have HP := fun w1 (hE : Ev w0 w1) => sx_put w1 (h'.ev hE) (Lies.tok _ _ w1 k s n p) (hkl e1 (by simp))
      rw [hmv] at HP
      have HP := Lib.hid HP
      obtain ⟨q, hq⟩ : ∃ q, (os1 ++ [e1]).length = q := ⟨_, rfl⟩
      rw [hq] at hle HP h ⊢
      have hq1 : 1 ≤ q := by rw [← hq]; simp
      clear hTk hT h' hq hkl hk
      go_enter Try.func13, Try.ntmps13
      go_wp2_with (first | ((with_reducible refine (HP.out _ (Ev.refl _)).mono ?_); rintro r w3 ⟨rfl, e', he', ho', hb', hs'⟩))
      go_ret
      exact ⟨_, _, rfl, ho', by rw [HTk.out]; simp [he'], by simp, (But.of_ev hE0).then hb', fun x hx => (hs' x hx).imp id (fun h5 => Nat.le_trans hE0.size h5)⟩
end Go.Proofs.Ytjffppfgappikaa
