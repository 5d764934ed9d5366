/-
  Texts that belong together: Package plan: the trees of a project's columns. Package plan: the tree of a plan: tables, unions, distinct rows. Package plan: the tree of a filter.
-/
import Derived.Test.YtojbahjebfcmgaaGreatDoorZ30W
import Derived.Test.YtojbahjebfcmgaaGreatDoorZ29W
namespace Go.Proofs.YtojbahjebfcmgaaGreatDoor
open Go.RowKit
set_option linter.unusedVariables false

/-- A slice of one text. -/
def FSs (s : By) (v : Value) (u : World) : Prop := ∃ g, v = .slice (some ⟨g, 0, none⟩) 1 1 ∧ Ss u (some ⟨g, 0, none⟩) 1 1 [s]
theorem FSs.mono (s : By) : Mono (FSs s) := fun v u u' hE ⟨g, e, h⟩ => ⟨g, e, h.ev hE⟩
theorem P0T.mono (b0 : Nat) (Ts : List T) : Mono (P0T b0 Ts) := fun v u u' hE h => h.ev hE
theorem P0T.but {b0 : Nat} {Ts : List T} {v : Value} {K : List Nat} {u u' : World} (h : P0T b0 Ts v u) (hb : But K u u') (hK : ∀ k ∈ K, k < b0) : P0T b0 Ts v u' := by
  obtain ⟨A, n, cap, L, e, h1, h2⟩ := h
  exact ⟨A, n, cap, L, e, h1.but hb hK, h2⟩
theorem FT.mono (b0 : Nat) (t : T) (K : List Nat) : Mono (FT b0 t K) := fun v u u' hE h => (FT.jf b0 t).ev _ _ _ _ hE h
theorem lies_young {b0 : Nat} {K : List Nat} {u u' : World} {x : M} (h : Lies b0 [] u x) (hb : But K u u') (hK : ∀ k ∈ K, k < b0) : Lies b0 [] u' x := ((h.less (K' := K) fun y hy => .inr (.inl (hK y hy))).move hb fun y hy => (by cases hy))
theorem FT.but {b0 : Nat} {t : T} {v : Value} {K : List Nat} {u u' : World} (h : FT b0 t [] v u) (hb : But K u u') (hK : ∀ k ∈ K, k < b0) : FT b0 t [] v u' := by
  obtain ⟨x, e, h1, h2⟩ := h
  exact ⟨x, e, h1, lies_young h2 hb hK⟩
theorem FM.mono (b0 : Nat) (Ts : List T) (K : List Nat) : Mono (FM b0 Ts K) := fun v u u' hE h => (FM.jf b0 Ts).ev _ _ _ _ hE h
/-- The same, the slice itself new. -/
def FMn (b0 : Nat) (Ts : List T) (v : Value) (u : World) : Prop := FM b0 Ts [] v u ∧ ∃ g n cap, v = .slice (some ⟨g, 0, none⟩) n cap ∧ b0 ≤ g
theorem FMn.mono (b0 : Nat) (Ts : List T) : Mono (FMn b0 Ts) := fun v u u' hE h => ⟨FM.mono _ _ _ _ _ _ hE h.1, h.2⟩
theorem FMn.but {b0 : Nat} {Ts : List T} {v : Value} {K : List Nat} {u u' : World} (h : FMn b0 Ts v u) (hb : But K u u') (hK : ∀ k ∈ K, k < b0) : FMn b0 Ts v u' := by
  obtain ⟨⟨A, n, cap, L, e, h1, h2, h3⟩, g, n', cap', e', hg⟩ := h
  refine ⟨⟨A, n, cap, L, e, h1.but hb fun ad ea hm => ?_, h2, fun x hx => lies_young (h3 x hx) hb hK⟩, g, n', cap', e', hg⟩
  rw [e] at e'
  injection e' with e1
  rw [ea] at e1
  injection e1 with e1
  subst e1
  have := hK _ hm
  simp at this
  omega
theorem But.to_ev {K : List Nat} {w0 u u' : World} (hE : Ev w0 u) (hb : But K u u') (hK : ∀ k ∈ K, w0.heap.size ≤ k) : Ev w0 u' := ((But.of_ev hE).then hb).ev hK

set_option maxRecDepth 100000 in
set_option maxHeartbeats 16000000 in
theorem pl_columnTrees (l : List By) (X : List M) (A1 A2 : Option Addr) (n cap1 cap2 b0 : Nat) (w : World) (h1 : Ss w A1 n cap1 l) (h2 : Es w A2 n cap2 X) (hn : n ≤ 100000) (hlx : ∀ x ∈ X, Lx b0 [] w x) (hrt : ∀ x ∈ X, xRight x.t = true ∧ x.t.size ≤ 16000 ∧ x.t.every (fun t => decide (t.s.length ≤ 1000000)) = true) :
    Calls Tryz.prog 111 #[.slice A1 n cap1, .slice A2 n cap2] w (AsOut (List.zipWith colTree l (X.map M.t)) w) := by
  have hmix : Tryz.prog.follows .mixedOrders = true := by kernel_rfl
  have hcl1 := h1.le
  have hcm1 := h1.max
  have hcl2 := h2.le
  have hcm2 := h2.max
  have HL1 := Lib.hid h1.len
  have HL2 := Lib.hid h2.len
  have H1 := Lib.hid h1
  have H2 := Lib.hid h2
  have HS0 := Lib.hid (KdSt.start w)
  have HTR := Lib.hid (fun x (hx : x ∈ X) w1 (hE : Ev w w1) => ex_Tree x b0 w1 ((hlx x hx).ev hE) (hrt x hx).1 (hrt x hx).2.1 (hrt x hx).2.2)
  unfold AsOut
  clear h1 h2 hlx hrt
  go_enter Tryz.func111, Tryz.ntmps111
  go_wp2
  go_loopw [5, 12] (fun av iv wr => ∃ (A3 : Option Addr) (cap3 k : Nat) (L : List M), av = .slice A3 k cap3 ∧ iv = .int .i64 (k : Int) ∧ k ≤ n ∧ Hid (L.map M.t = (List.zipWith colTree l (X.map M.t)).take k) ∧ Hid (KdSt w A3 k cap3 L wr)) (fun _ iv _ => n - (intOf iv).toNat)
  case atStart => exact ⟨none, 0, 0, [], rfl, rfl, Nat.zero_le _, Lib.hid rfl, HS0⟩
  case round =>
    obtain ⟨A3, cap3, k, L, rfl, rfl, hk, HLT, HS⟩ := hrel
    by_cases hlt : k < n
    · obtain ⟨s, hs⟩ := H1.out.at hlt
      obtain ⟨x, hx⟩ := H2.out.at hlt
      obtain ⟨b, off, rfl, hb, hc⟩ := H1.out.rd (by omega)
      have n0 := hc k s hs 0 _ rfl
      simp only [Nat.mul_one, Nat.add_zero] at n0
      obtain ⟨b2, off2, rfl, hb2, x0, x1, x2, x3⟩ := Es.cell H2.out hx
      unfold M.kv at x3
      have hxm := List.mem_of_getElem? hx
      have HT := Lib.hid (HTR.out x hxm)
      have HTK : Hid ((List.zipWith colTree l (X.map M.t)).take (k + 1) = (List.zipWith colTree l (X.map M.t)).take k ++ [colTree s x.t]) := Lib.hid (by
        have hz : (List.zipWith colTree l (X.map M.t))[k]? = some (colTree s x.t) := by
          rw [List.getElem?_zipWith, hs, List.getElem?_map, hx]
          rfl
        obtain ⟨hk2, e1⟩ := List.getElem?_eq_some_iff.1 hz
        rw [List.take_succ_eq_append_getElem hk2, e1])
      have HLL := Lib.hid HS.out.len
      have i1 : (0 : Int) ≤ (k : Int) := by omega
      have i2 : (k : Int) < (n : Int) := by omega
      clear hs hx hc hxm
      go_upto_region 5 with fail
      have JFS : ∀ f ∈ ([(11, 26, FT wr.heap.size (xTree x.t)), (12, 27, FM wr.heap.size [xTree x.t])] : List (Nat × Nat × (List Nat → Value → World → Prop))), JF f.2.2 := fun f hf => by
        simp at hf
        rcases hf with rfl | rfl
        · exact FT.jf _ _
        · exact FM.jf _ _
      have JNE : ∀ f ∈ ([(11, 26, FT wr.heap.size (xTree x.t)), (12, 27, FM wr.heap.size [xTree x.t])] : List (Nat × Nat × (List Nat → Value → World → Prop))), f.1 ≠ 6 ∧ f.2.1 ≠ 21 := fun f hf => by
        simp at hf
        rcases hf with rfl | rfl <;> simp
      have hfl0 : ∀ y ∈ foot (.slice A3 k cap3), y < wr.heap.size := fun y hy => (HS.out.own.lt (mem_foot.1 hy)).2
      refine wp_region_slotsG hmix (fun u => Ev w u ∧ wr.heap.size ≤ u.heap.size) (fun p u u' => match p with | 0 => True | 1 => But (foot (.slice A3 k cap3)) u u' | _ + 2 => False) [13, 16] (fun p u => p ≤ 1 → Ev wr u) [5] [[13, 14, 15, 16, 17], [16, 17]] 13 [fun v _ => v = .slice A3 k cap3, fun v _ => v = .slice (some ⟨b, off, none⟩) n cap1, fun v _ => v = .int .i64 (k : Int), fun v _ => v = .pointer (some ⟨b, off + k, none⟩), fun v _ => v = .string ⟨s.toArray⟩, FSs s, fun _ _ => True, fun v _ => v = .slice (some ⟨b2, off2, none⟩) n cap2, fun v _ => v = .int .i64 (k : Int), fun v _ => v = .pointer (some ⟨b2, off2 + k * 4, none⟩), fun v _ => v = .agg #[.int .i64 x.kind, .string ⟨x.s.toArray⟩, .int .i64 x.n, .slice x.A x.kids.length x.cap], fun _ _ => True, fun _ _ => True, P0T wr.heap.size [pAtom s, xTree x.t], FT wr.heap.size (colTree s x.t) [], FMn wr.heap.size [colTree s x.t], P0T w.heap.size (L.map M.t ++ [colTree s x.t]), P0T w.heap.size (L.map M.t ++ [colTree s x.t])]
        34 2 rfl (by kernel_rfl) ⟨mono_eq _, mono_eq _, mono_eq _, mono_eq _, mono_eq _, FSs.mono s, mono_true, mono_eq _, mono_eq _, mono_eq _, mono_eq _, mono_true, mono_true, P0T.mono _ _, FT.mono _ _ _, FMn.mono _ _, P0T.mono _ _, P0T.mono _ _, trivial⟩ ⟨Or.inr fun p => Or.inr fun _ _ _ _ h => h, Or.inr fun p => Or.inr fun _ _ _ _ h => h, Or.inr fun p => Or.inr fun _ _ _ _ h => h, Or.inr fun p => Or.inr fun _ _ _ _ h => h, Or.inr fun p => Or.inr fun _ _ _ _ h => h, Or.inl rfl, Or.inr fun p => Or.inr fun _ _ _ _ h => h, Or.inr fun p => Or.inr fun _ _ _ _ h => h, Or.inr fun p => Or.inr fun _ _ _ _ h => h, Or.inr fun p => Or.inr fun _ _ _ _ h => h, Or.inr fun p => Or.inr fun _ _ _ _ h => h, Or.inr fun p => Or.inr fun _ _ _ _ h => h, Or.inr fun p => Or.inr fun _ _ _ _ h => h, Or.inr fun p => match p with | 0 => Or.inl rfl | 1 => Or.inr fun _ _ _ hb h => h.but hb hfl0 | _ + 2 => Or.inr fun _ _ _ hb h => hb.elim, Or.inr fun p => match p with | 0 => Or.inl rfl | 1 => Or.inr fun _ _ _ hb h => h.but hb hfl0 | _ + 2 => Or.inr fun _ _ _ hb h => hb.elim, Or.inr fun p => match p with | 0 => Or.inl rfl | 1 => Or.inr fun _ _ _ hb h => h.but hb hfl0 | _ + 2 => Or.inr fun _ _ _ hb h => hb.elim, Or.inr fun p => match p with | 0 => Or.inl rfl | 1 => Or.inl rfl | _ + 2 => Or.inr fun _ _ _ hb h => hb.elim, Or.inr fun p => match p with | 0 => Or.inl rfl | 1 => Or.inl rfl | _ + 2 => Or.inr fun _ _ _ hb h => hb.elim, trivial⟩ (by kernel_rfl) rfl (by kernel_rfl) (fun p u u' hE h hp => (h hp).trans hE) (fun u u' hE h => ⟨h.1.trans hE, Nat.le_trans h.2 hE.size⟩) (⟨HS.out.ev, Nat.le_refl _⟩) (fun _ => Ev.refl _) (by kernel_rfl) (GJ 6 21 (P0T wr.heap.size [pAtom s]) [(11, 26, FT wr.heap.size (xTree x.t)), (12, 27, FM wr.heap.size [xTree x.t])]) [6, 11, 12] (by kernel_rfl) (fun L L' a a' u u' hL ha hE h => GJ.keep (fun v u u' hE h => h.ev hE) JFS (hL 6 (by decide)) (fun f hf => by simp at hf; rcases hf with rfl | rfl <;> exact hL _ (by simp)) (ha 6 (by decide) _ (by kernel_rfl)) (fun f hf => by simp at hf; rcases hf with rfl | rfl; exact ha 11 (by simp) 26 (by kernel_rfl); exact ha 12 (by simp) 27 (by kernel_rfl)) hE h) (fun L hL => GJ.none hL) ?_ ?_ ?_ ?_
      · refine opc_cons 0 ?_ (opc_cons 1 ?_ (opc_cons 2 ?_ (opc_cons 3 ?_ (opc_cons 4 ?_ (opc_cons 5 ?_ (opc_turn 6 (by decide) (opc_cons 7 ?_ (opc_cons 8 ?_ (opc_cons 9 ?_ (opc_cons 10 ?_ (opc_turn 11 (by decide) (opc_turn 12 (by decide) (opc_turn 13 (by decide) (opc_cons 14 ?_ (opc_cons 15 ?_ (opc_turn 16 (by decide) (opc_cons 17 ?_ (opc_nil 18))))))))))))))))))
        · refine opg_value fun a w c => ⟨(wanted_plain rfl), _, run_move _ rfl w, (c.was 5 (by kernel_rfl) rfl)⟩
        · refine opg_value fun a w c => ⟨(wanted_plain rfl), _, run_move _ rfl w, (c.was 0 (by kernel_rfl) rfl)⟩
        · refine opg_value fun a w c => ⟨(wanted_plain rfl), _, run_move _ rfl w, (c.was 6 (by kernel_rfl) rfl)⟩
        · refine opg_value fun a w c => ⟨(wanted_plain rfl), .pointer (some ⟨b, off + k, none⟩), ?_, rfl⟩
          have e16 : a.eval (.tmp 16) = .slice (some ⟨b, off, none⟩) n cap1 := (c.new 1 16 (by kernel_rfl) (by kernel_rfl) (by kernel_rfl))
          have e17 : a.eval (.tmp 17) = .int .i64 (k : Int) := (c.new 2 17 (by kernel_rfl) (by kernel_rfl) (by kernel_rfl))
          generalize a.eval = ρ at e16 e17 ⊢
          simp [execOp, e16, e17, go_sem, i1, i2]
        · refine opg_value fun a wq c => ⟨(wanted_plain rfl), .string ⟨s.toArray⟩, ?_, rfl⟩
          have e_0 : a.eval (.tmp 18) = .pointer (some ⟨b, off + k, none⟩) := (c.new 3 18 (by kernel_rfl) (by kernel_rfl) (by kernel_rfl))
          have q0 := (c.inv.1.cell (p := ⟨b, off + k, none⟩) hb).trans n0
          generalize a.eval = ρ at e_0 ⊢
          simp [execOp, e_0, q0, go_sem]
        · refine opg_makes fun a wq c => ⟨(wanted_plain rfl), _, _, run_build_text s rfl (c.new 4 19 (by kernel_rfl) (by kernel_rfl) (by kernel_rfl)) wq, Ev.alloc _ _, ⟨c.inv.1.trans (Ev.alloc wq _), Nat.le_trans c.inv.2 (Ev.alloc wq _).size⟩, ⟨_, rfl, Ss.made wq [s] _ rfl (by simp)⟩⟩
        · refine opg_value fun a w c => ⟨(wanted_plain rfl), _, run_move _ rfl w, (c.was 1 (by kernel_rfl) rfl)⟩
        · refine opg_value fun a w c => ⟨(wanted_plain rfl), _, run_move _ rfl w, (c.was 6 (by kernel_rfl) rfl)⟩
        · refine opg_value fun a w c => ⟨(wanted_plain rfl), .pointer (some ⟨b2, off2 + k * 4, none⟩), ?_, rfl⟩
          have e22 : a.eval (.tmp 22) = .slice (some ⟨b2, off2, none⟩) n cap2 := (c.new 7 22 (by kernel_rfl) (by kernel_rfl) (by kernel_rfl))
          have e23 : a.eval (.tmp 23) = .int .i64 (k : Int) := (c.new 8 23 (by kernel_rfl) (by kernel_rfl) (by kernel_rfl))
          generalize a.eval = ρ at e22 e23 ⊢
          simp [execOp, e22, e23, go_sem, i1, i2]
        · refine opg_value fun a wq c => ⟨(wanted_plain rfl), .agg #[.int .i64 x.kind, .string ⟨x.s.toArray⟩, .int .i64 x.n, .slice x.A x.kids.length x.cap], ?_, rfl⟩
          have e_0 : a.eval (.tmp 24) = .pointer (some ⟨b2, off2 + k * 4, none⟩) := (c.new 9 24 (by kernel_rfl) (by kernel_rfl) (by kernel_rfl))
          have q0 := (c.inv.1.cell (p := ⟨b2, off2 + k * 4, none⟩) hb2).trans x0
          have q1 := (c.inv.1.cell (p := ⟨b2, off2 + k * 4 + 1, none⟩) hb2).trans x1
          have q2 := (c.inv.1.cell (p := ⟨b2, off2 + k * 4 + 2, none⟩) hb2).trans x2
          have q3 := (c.inv.1.cell (p := ⟨b2, off2 + k * 4 + 3, none⟩) hb2).trans x3
          generalize a.eval = ρ at e_0 ⊢
          simp [execOp, e_0, q0, q1, q2, q3, go_sem]
        · refine opg_call fun a wq c => ?_
          obtain ⟨A_, n_, cap_, Z_, e_, hO_, hZ_⟩ := (c.got 13 28 (by kernel_rfl) (by kernel_rfl) (by kernel_rfl) rfl : P0T wr.heap.size [pAtom s, xTree x.t] _ _)
          refine ⟨wanted_plain rfl, 112, #[.slice A_ n_ cap_], ?_, ?_⟩
          · rw [run_call 112 _ _ rfl (by kernel_rfl)]
            simp [e_]
          · refine (pl_open A_ n_ cap_ wq).mono ?_
            rintro r wp ⟨rfl, hE_⟩
            obtain ⟨hl_, hn_⟩ := hO_.done
            exact ⟨_, rfl, hE_, ⟨c.inv.1.trans hE_, Nat.le_trans c.inv.2 hE_.size⟩, ⟨.mk 1 [] 0 A_ cap_ Z_ 0, by rw [hn_]; rfl, by simp only [M.t, M.ts_map]; rw [hZ_]; rfl, hl_.ev hE_⟩⟩
        · refine opg_makes fun a wq c => ?_
          obtain ⟨m_, e_, ht_, hl_⟩ := (c.got 14 29 (by kernel_rfl) (by kernel_rfl) (by kernel_rfl) rfl : FT wr.heap.size (colTree s x.t) [] _ _)
          exact ⟨(wanted_plain rfl), _, _, run_build_tree m_ rfl e_ wq, Ev.alloc _ _, ⟨c.inv.1.trans (Ev.alloc wq _), Nat.le_trans c.inv.2 (Ev.alloc wq _).size⟩, FT.slice m_ ht_ hl_, _, _, _, rfl, c.inv.2⟩
        · refine opg_value fun a w c => ⟨(wanted_plain rfl), _, run_assign _ rfl w, (c.new 16 31 (by kernel_rfl) (by kernel_rfl) (by kernel_rfl))⟩
      · refine sps_cons rfl ?_ (sps_cons rfl ?_ (sps_cons rfl ?_ sps_nil))
        · refine ops_call fun a wq L c hs hp hu hg => ?_
          obtain ⟨g_, e_, hS_⟩ := (c.got 5 20 (by kernel_rfl) (by kernel_rfl) (by kernel_rfl) rfl : FSs s _ _)
          refine ⟨wanted_plain rfl, 109, #[.slice (some ⟨g_, 0, none⟩) 1 1], ?_, ?_⟩
          · rw [run_call 109 _ _ rfl (by kernel_rfl)]
            simp [e_]
          · refine (pl_atoms [s] _ 1 1 wq hS_ (by omega)).mono ?_
            rintro r wp hA_
            obtain ⟨v_, rfl, hP_, hn_, hE_⟩ := hA_.p0 (b0 := wr.heap.size) c.inv.2
            exact ⟨v_, rfl, hE_, ⟨c.inv.1.trans hE_, Nat.le_trans c.inv.2 hE_.size⟩, trivial, fun L' h1 h2 => GJ.first JFS hg hu hE_ JNE (Nat.lt_of_lt_of_eq (by decide : 21 < 34) hs.symm) hP_ hn_ h1 h2⟩
        · refine ops_call fun a wq L c hs hp hu hg => ?_
          have e_ : a.eval (.tmp 25) = .agg #[.int .i64 x.kind, .string ⟨x.s.toArray⟩, .int .i64 x.n, .slice x.A x.kids.length x.cap] := (c.new 10 25 (by kernel_rfl) (by kernel_rfl) (by kernel_rfl))
          refine ⟨wanted_plain rfl, 110, #[.agg #[.int .i64 x.kind, .string ⟨x.s.toArray⟩, .int .i64 x.n, .slice x.A x.kids.length x.cap]], ?_, ?_⟩
          · rw [run_call 110 _ _ rfl (by kernel_rfl)]
            simp [e_]
          · refine (HT.out wq c.inv.1).mono ?_
            rintro r wp ⟨m_, rfl, ht_, hl_, hE_⟩
            refine ⟨_, rfl, hE_, ⟨c.inv.1.trans hE_, Nat.le_trans c.inv.2 hE_.size⟩, trivial, fun L' h1 h2 => GJ.other (fun v u u' hE h => h.ev hE) JFS hg hE_ (by decide) (fun f hf hne => ?_) (Nat.lt_of_lt_of_eq (by decide : 26 < 34) hs.symm) (fun f hf he => ?_) h1 h2⟩
            · simp at hf
              rcases hf with rfl | rfl
              · exact absurd rfl hne
              · simp
            · simp at hf
              rcases hf with rfl | rfl
              · exact ⟨rfl, m_, rfl, ht_, (hl_.less fun y hy => .inr (.inl (hg.old y hy))).low c.inv.2⟩
              · simp at he
        · refine ops_makes fun a wq L c hs hp hu hg => ?_
          obtain ⟨m_, e_, ht_, hl_⟩ := hg.2 (11, 26, FT wr.heap.size (xTree x.t)) (by simp) (hp 11 (by kernel_rfl))
          refine ⟨wanted_plain rfl, _, _, run_build_tree m_ rfl e_ wq, Ev.alloc _ _, ⟨c.inv.1.trans (Ev.alloc wq _), Nat.le_trans c.inv.2 (Ev.alloc wq _).size⟩, trivial, fun L' h1 h2 => GJ.other (fun v u u' hE h => h.ev hE) JFS hg (Ev.alloc _ _) (by decide) (fun f hf hne => ?_) (Nat.lt_of_lt_of_eq (by decide : 27 < 34) hs.symm) (fun f hf he => ?_) h1 h2⟩
          · simp at hf
            rcases hf with rfl | rfl
            · simp
            · exact absurd rfl hne
          · simp at hf
            rcases hf with rfl | rfl
            · simp at he
            · exact ⟨rfl, FT.slice m_ ht_ hl_⟩
      · refine trn_cons 0 rfl ?_ (trn_cons 1 rfl ?_ (trn_nil 2))
        · refine opv_makes fun a wq c st hg => ?_
          obtain ⟨L_, hL_, hG_⟩ := hg rfl
          have hP_ := hG_.1 (hL_ 6 (by kernel_rfl))
          have hF_ := hG_.2 (12, 27, FM wr.heap.size [xTree x.t]) (by simp) (hL_ 12 (by kernel_rfl))
          rw [if_pos (hL_ 6 (by kernel_rfl))] at hF_
          obtain ⟨v_, w_, hr_, hP2_, hb_⟩ := run_append_trees (o := ⟨some 28, _, _, _, _, _⟩) rfl rfl rfl hP_ hF_ (by simp) c.inv.2
          exact ⟨wanted_plain rfl, v_, w_, hr_, trivial, ⟨But.to_ev c.inv.1 hb_ fun y hy => Nat.le_trans HS.out.ev.size (hP_.foot_lt y hy).1, Nat.le_trans c.inv.2 hb_.size⟩, fun _ => But.to_ev (st (by omega)) hb_ fun y hy => (hP_.foot_lt y hy).1, hP2_⟩
        · refine opv_makes fun a wq c st hg => ?_
          have hF_ := (c.got 15 30 (by kernel_rfl) (by kernel_rfl) (by kernel_rfl) rfl : FMn wr.heap.size [colTree s x.t] _ _)
          have e_ : a.eval (.tmp 15) = .slice A3 k cap3 := (c.new 0 15 (by kernel_rfl) (by kernel_rfl) (by kernel_rfl))
          have hK_ := HS.out.on (st (by omega))
          have hP_ : P0T w.heap.size (L.map M.t) (.slice A3 k cap3) wq := ⟨A3, k, cap3, L, rfl, hK_.owt (Nat.le_refl _), rfl⟩
          have hfl_ : ∀ y ∈ foot (.slice A3 k cap3), y < wr.heap.size := fun y hy => (HS.out.own.lt (mem_foot.1 hy)).2
          obtain ⟨⟨B_, n_, cap_, Z_, e2_, hm_, hz_, hl_⟩, _⟩ := hF_
          have hM_ : FM w.heap.size [colTree s x.t] (foot (.slice A3 k cap3)) (a.eval (.tmp 30)) wq := ⟨B_, n_, cap_, Z_, e2_, hm_, hz_, fun y hy => ((hl_ y hy).less fun z hz => .inr (.inl (hfl_ z hz))).low HS.out.ev.size⟩
          obtain ⟨v_, w_, hr_, hP2_, hb_⟩ := run_append_trees (o := ⟨some 31, _, _, _, _, _⟩) rfl e_ rfl hP_ hM_ (by rw [List.length_map, HLL.out]; simp; omega) c.inv.1.size
          exact ⟨wanted_plain rfl, v_, w_, hr_, hb_, ⟨But.to_ev c.inv.1 hb_ fun y hy => (HS.out.own.lt (mem_foot.1 hy)).1, Nat.le_trans c.inv.2 hb_.size⟩, (fun h => by omega), hP2_⟩
      intro sl wB hI hold hnew hst
      obtain ⟨A4, n4, cap4, L4, f5, hO4, hL4⟩ := (hnew 17 5 (by kernel_rfl) (by kernel_rfl) : P0T w.heap.size (L.map M.t ++ [colTree s x.t]) (sl 5) wB)
      have f0 : sl 0 = .slice (some ⟨b, off, none⟩) n cap1 := hold 0 (by kernel_rfl)
      have f1 : sl 1 = .slice (some ⟨b2, off2, none⟩) n cap2 := hold 1 (by kernel_rfl)
      have f2 : sl 2 = undef := hold 2 (by kernel_rfl)
      have f3 : sl 3 = undef := hold 3 (by kernel_rfl)
      have f4 : sl 4 = .slice none 0 0 := hold 4 (by kernel_rfl)
      have f6 : sl 6 = .int .i64 (k : Int) := hold 6 (by kernel_rfl)
      have f7 : sl 7 = .slice (some ⟨b, off, none⟩) n cap1 := hold 7 (by kernel_rfl)
      have f8 : sl 8 = .int .i64 (n : Int) := hold 8 (by kernel_rfl)
      have f9 : sl 9 = .slice (some ⟨b2, off2, none⟩) n cap2 := hold 9 (by kernel_rfl)
      have f10 : sl 10 = .int .i64 (n : Int) := hold 10 (by kernel_rfl)
      have f11 : sl 11 = .int .i64 (n : Int) := hold 11 (by kernel_rfl)
      have f12 : sl 12 = .int .i64 (k : Int) := hold 12 (by kernel_rfl)
      have f13 : sl 13 = .bool true := hold 13 (by kernel_rfl)
      have f14 : sl 14 = .int .i64 (k : Int) := hold 14 (by kernel_rfl)
      have f32 : sl 32 = u32 := hold 32 (by kernel_rfl)
      have f33 : sl 33 = undef := hold 33 (by kernel_rfl)
      have f15 : sl 15 = .slice A3 k cap3 := hnew 0 15 (by kernel_rfl) (by kernel_rfl)
      have f16 : sl 16 = .slice (some ⟨b, off, none⟩) n cap1 := hnew 1 16 (by kernel_rfl) (by kernel_rfl)
      have f17 : sl 17 = .int .i64 (k : Int) := hnew 2 17 (by kernel_rfl) (by kernel_rfl)
      have f18 : sl 18 = .pointer (some ⟨b, off + k, none⟩) := hnew 3 18 (by kernel_rfl) (by kernel_rfl)
      have f19 : sl 19 = .string ⟨s.toArray⟩ := hnew 4 19 (by kernel_rfl) (by kernel_rfl)
      have f22 : sl 22 = .slice (some ⟨b2, off2, none⟩) n cap2 := hnew 7 22 (by kernel_rfl) (by kernel_rfl)
      have f23 : sl 23 = .int .i64 (k : Int) := hnew 8 23 (by kernel_rfl) (by kernel_rfl)
      have f24 : sl 24 = .pointer (some ⟨b2, off2 + k * 4, none⟩) := hnew 9 24 (by kernel_rfl) (by kernel_rfl)
      have f25 : sl 25 = .agg #[.int .i64 x.kind, .string ⟨x.s.toArray⟩, .int .i64 x.n, .slice x.A x.kids.length x.cap] := hnew 10 25 (by kernel_rfl) (by kernel_rfl)
      change (_ : Act → World → Prop) ⟨#[sl 0, sl 1, sl 2, sl 3, sl 4, sl 5, sl 6, sl 7, sl 8, sl 9, sl 10, sl 11, sl 12, sl 13, sl 14, sl 15, sl 16, sl 17, sl 18, sl 19, sl 20, sl 21, sl 22, sl 23, sl 24, sl 25, sl 26, sl 27, sl 28, sl 29, sl 30, sl 31, sl 32, sl 33], _⟩ _
      simp only [f5, f0, f1, f2, f3, f4, f6, f7, f8, f9, f10, f11, f12, f13, f14, f32, f33, f15, f16, f17, f18, f19, f22, f23, f24, f25]
      clear hold hnew
      have hn4 : n4 = k + 1 := by
        have h5 := congrArg List.length hL4
        rw [List.length_map, hO4.len, List.length_append, List.length_map, HLL.out] at h5
        simpa using h5
      subst hn4
      have HK4 := Lib.hid (⟨hO4.own, hO4.len, hO4.lies, hI.1⟩ : KdSt w A4 (k + 1) cap4 L4 wB)
      have HL4 := Lib.hid hL4
      clear hO4 hL4 hst hI JFS JNE n0 x0 x1 x2 x3
      go_wp2
      go_roundw
      case rel => exact ⟨A4, cap4, k + 1, L4, rfl, by go_num, by omega, Lib.hid (by rw [HTK.out, HL4.out, HLT.out]), HK4⟩
      case measure => simp [intOf]; omega
    · obtain rfl : k = n := by omega
      have HF : Hid (L.map M.t = List.zipWith colTree l (X.map M.t)) := Lib.hid (by
        have h1 := HLT.out
        rwa [List.take_of_length_le (by rw [List.length_zipWith, List.length_map, HL1.out, HL2.out]; omega)] at h1)
      go_wp2
      go_ret
      exact ⟨A3, _, cap3, L, rfl, HS.out, HF.out⟩
end Go.Proofs.YtojbahjebfcmgaaGreatDoor

namespace Go.Proofs.YtojbahjebfcmgaaGreatDoor
open Go.RowKit
set_option linter.unusedVariables false

theorem pTree_m (m : PM) : pTree m.p = pOpen (pHead m.kind m.name (m.ex.l.map M.t) m.co.l m.lf.l m.rt.l m.ag.l ++ m.kids.map fun x => pTree x.p) := by
  rw [PM.p_eq, pTree, pTrees_map, List.map_map]
  rfl
theorem KdSt.since {w0 w1 w' : World} {A : Option Addr} {n cap : Nat} {L : List M} (hE : Ev w0 w1) (h : KdSt w1 A n cap L w') : KdSt w0 A n cap L w' := ⟨h.own.low hE.size, h.len, fun x hx => (h.lies x hx).low hE.size, hE.trans h.ev⟩
theorem bx_plr (w : World) (c0 c1 c2 c3 c4 c5 c6 c7 : Value) : ∃ w0, (w.alloc (.cells #[c0, c1, c2, c3, c4, c5, c6, c7] 27)).alloc (.cells #[.int .i64 0, .string ⟨#[]⟩, .int .i64 0, .slice none 0 0, .int .i64 0] 67) = w0 ∧ Ev w w0 ∧ Bx 27 w.heap.size #[c0, c1, c2, c3, c4, c5, c6, c7] w0 ∧ Bx 67 (w.heap.size + 1) #[.int .i64 0, .string ⟨#[]⟩, .int .i64 0, .slice none 0 0, .int .i64 0] w0 := by
  have hB : Bx 67 (w.heap.size + 1) #[.int .i64 0, .string ⟨#[]⟩, .int .i64 0, .slice none 0 0, .int .i64 0] ((w.alloc (.cells #[c0, c1, c2, c3, c4, c5, c6, c7] 27)).alloc (.cells #[.int .i64 0, .string ⟨#[]⟩, .int .i64 0, .slice none 0 0, .int .i64 0] 67)) := by
    have := Bx.new 67 #[.int .i64 0, .string ⟨#[]⟩, .int .i64 0, .slice none 0 0, .int .i64 0] (w.alloc (.cells #[c0, c1, c2, c3, c4, c5, c6, c7] 27))
    simpa using this
  exact ⟨_, rfl, (Ev.alloc w _).trans (Ev.alloc _ _), (Bx.new 27 #[c0, c1, c2, c3, c4, c5, c6, c7] w).ev (Ev.alloc _ _), hB⟩

set_option maxRecDepth 100000 in
set_option maxHeartbeats 16000000 in
theorem pl_treeTable (m : PM) (b0 : Nat) (w : World) (h : Qx b0 [] w m) (hk : m.kind = 1) (hkn : m.kids.length ≤ 10000) (ih : ∀ x ∈ m.kids, ∀ w1, Ev w w1 → Calls Tryz.prog 60 #[pv x] w1 (TrOut (pTree x.p) w1)) :
    Calls Tryz.prog 60 #[pv m] w (TrOut (pTree m.p) w) := by
  have hmix : Tryz.prog.follows .mixedOrders = true := by kernel_rfl
  have HT0 := pTree_m m
  rw [hk] at HT0
  obtain ⟨R, hR⟩ : ∃ R, R = pTree m.p := ⟨_, rfl⟩
  rw [← hR] at HT0 ⊢
  have HRT : Hid (R = pOpen ([bTable, m.name].map pAtom ++ m.kids.map fun x => pTree x.p)) := Lib.hid HT0
  obtain ⟨hex, hlx, hco, hlf, hrt, hag, hks, hkq⟩ := h.at
  have hps := h.ps
  have hkc := h.ps.le
  have hkm := h.ps.max
  have HIH := Lib.hid ih
  unfold pv Sle.v PM.kv TrOut
  unfold pv Sle.v PM.kv TrOut at HIH
  rw [hk]
  clear hks hkq h
  generalize m.A = mA at *
  generalize m.cap = mcap at *
  have HPS := Lib.hid hps
  obtain ⟨w0, hw0, hE0, hX, hB⟩ := bx_plr w (.int .i64 1) (.string ⟨m.name.toArray⟩) (.slice m.ex.A m.ex.l.length m.ex.cap) (.slice m.co.A m.co.l.length m.co.cap) (.slice m.lf.A m.lf.l.length m.lf.cap) (.slice m.rt.A m.rt.l.length m.rt.cap) (.slice m.ag.A m.ag.l.length m.ag.cap) (.slice mA m.kids.length mcap)
  obtain ⟨⟨p0, p1, p2, p3, p4, p5, p6, p7⟩, _⟩ := hX.eight
  have HX := Lib.hid hX
  have HB := Lib.hid hB
  have HE := Lib.hid hE0
  have HEX := Lib.hid hex
  have HLX := Lib.hid hlx
  have HCO := Lib.hid hco
  have HLF := Lib.hid hlf
  have HRI := Lib.hid hrt
  have HAG := Lib.hid hag
  have HKN := Lib.hid hkn
  clear HT0 hX hB hE0 hex hlx hco hlf hrt hag ih hR hk hps
  have hAT : Calls Tryz.prog 109 #[.slice (some ⟨w0.heap.size, 0, none⟩) 2 2] (w0.alloc (.cells #[.string ⟨#[116, 97, 98, 108, 101]⟩, .string ⟨m.name.toArray⟩] 9)) (AsOut ([bTable, m.name].map pAtom) (w0.alloc (.cells #[.string ⟨#[116, 97, 98, 108, 101]⟩, .string ⟨m.name.toArray⟩] 9))) := pl_atoms [bTable, m.name] _ _ _ _ (Ss.made w0 [bTable, m.name] _ rfl (by simp)) (by simp)
  unfold AsOut at hAT
  have HAT := Lib.hid hAT
  clear hAT
  go_enter Tryz.func60, Tryz.ntmps60
  go_wp2_with (first
    | ((with_reducible refine HAT.out.mono ?_); rintro e w1 ⟨A3, n3, cap3, L3, rfl, hK, hLT⟩; have HK := Lib.hid (KdSt.since (Ev.alloc w0 _) hK); have HLT := Lib.hid hLT; clear hK hLT; clear p0 p1 p2 p3 p4 p5 p6 p7; obtain ⟨⟨p0, p1, p2, p3, p4, p5, p6, p7⟩, _⟩ := (HX.out.ev HK.out.ev).eight))
  have HLE : Hid (L3.length ≤ 30000) := Lib.hid (by have := congrArg List.length HLT.out; simp at this; omega)
  have HLN := Lib.hid HK.out.len
  obtain ⟨hd, hhd⟩ : ∃ hd, hd = L3.map M.t := ⟨_, rfl⟩
  have HRD : Hid (R = pOpen (hd ++ m.kids.map fun x => pTree x.p)) := Lib.hid (by rw [HRT.out, hhd, HLT.out])
  have HHD := Lib.hid hhd
  clear hhd
  go_loopw [3, 93] (fun kv iv wr => ∃ (A1 : Option Addr) (n1 cap1 j : Nat) (L : List M), kv = .slice A1 n1 cap1 ∧ iv = .int .i64 (j : Int) ∧ j ≤ m.kids.length ∧ Hid (KdSt w0 A1 n1 cap1 L wr) ∧ Hid (L.map M.t = hd ++ (m.kids.take j).map fun x => pTree x.p)) (fun _ iv _ => m.kids.length - (intOf iv).toNat)
  case atStart => exact ⟨_, n3, cap3, 0, L3, rfl, rfl, Nat.zero_le _, HK, Lib.hid (by rw [HHD.out]; simp)⟩
  case round =>
    obtain ⟨A1, n1, cap1, j, L, rfl, rfl, hj, HS, HR⟩ := hrel
    have HEW := Lib.hid (HE.out.trans HS.out.ev)
    by_cases hlt : j < m.kids.length
    · obtain ⟨x, hx⟩ := HPS.out.at hlt
      obtain ⟨b, off, rfl, hb_, _⟩ := HPS.out.rd (by omega)
      obtain ⟨x0, x1, x2, x3, x4, x5, x6, x7⟩ := Ps.cell (HPS.out.ev HEW.out) hx
      unfold Sle.v PM.kv at *
      have hxm := List.mem_of_getElem? hx
      have HTK : Hid ((m.kids.take (j + 1)).map (fun x => pTree x.p) = (m.kids.take j).map (fun x => pTree x.p) ++ [pTree x.p]) := Lib.hid (by
        obtain ⟨hk2, e⟩ := List.getElem?_eq_some_iff.1 hx
        rw [List.take_succ_eq_append_getElem hk2, e, List.map_append]
        rfl)
      have HI := Lib.hid (fun w1 (hE : Ev w w1) => HIH.out x hxm w1 hE)
      have HLL := Lib.hid HS.out.len
      have HNL : Hid (L.length ≤ 50000) := Lib.hid (by
        have h5 := congrArg List.length HR.out
        rw [List.length_append, List.length_map, List.length_map, HHD.out, List.length_map, List.length_take] at h5
        have := HLE.out; have := HKN.out
        omega)
      have i1 : (0 : Int) ≤ (j : Int) := by omega
      have i2 : (j : Int) < (m.kids.length : Int) := by omega
      clear hx hxm
      go_wp2_with (first
        | ((with_reducible refine (HI.out _ (HEW.out.trans (Ev.alloc wr _))).mono ?_); rintro e w1 ⟨x', rfl, hxt, hxl, hE1⟩; have HXT := Lib.hid hxt; have HXL := Lib.hid hxl; have E1 := Lib.hid ((Ev.alloc wr _).trans hE1); clear hxt hxl)
        | ((show wpList _ _ _ (⟨some 101, _, _, _, _, _⟩ :: _) _ _); refine wpList_append_ow (o := ⟨some 101, _, _, _, _, _⟩) rfl 65 (.tmp 97) (.tmp 100) rfl encM Tryz.underlying65 Tryz.infoTree rfl rfl (HS.out.own.ev (E1.out.trans (Ev.alloc w1 _))) (some ⟨w1.heap.size, 0, none⟩) 1 1 [x'] rfl (Sl.one (et := 67) encM w1 x' _ rfl) (by have := HNL.out; simp; omega) (by have := HNL.out; simp; omega) ((HS.out.ev.trans E1.out).trans (Ev.alloc w1 _)).size ?_; intro v2 w2 hA2; obtain ⟨A2, cap2, rfl, ST2⟩ := HS.out.next (E1.out.trans (Ev.alloc w1 _)) ((HXL.out.low (Ev.alloc wr (.cells #[.int .i64 x.kind, .string ⟨x.name.toArray⟩, .slice x.ex.A x.ex.l.length x.ex.cap, .slice x.co.A x.co.l.length x.co.cap, .slice x.lf.A x.lf.l.length x.lf.cap, .slice x.rt.A x.rt.l.length x.rt.cap, .slice x.ag.A x.ag.l.length x.ag.cap, .slice x.A x.kids.length x.cap] 27)).size).ev (Ev.alloc w1 _)) hA2))
      go_roundw
      case rel => exact ⟨A2, n1 + 1, cap2, j + 1, L ++ [x'], rfl, by go_num, by omega, Lib.hid ST2, Lib.hid (by rw [HTK.out, List.map_append, HR.out, List.map_cons, List.map_nil, HXT.out, List.append_assoc])⟩
      case measure => simp [intOf]; omega
    · obtain rfl : j = m.kids.length := by omega
      obtain ⟨hlx, hnl⟩ := HS.out.done
      have HNL := Lib.hid hnl
      have hbl := HB.out.lt
      have HLX2 := Lib.hid (hlx.less (K' := [w.heap.size + 1]) fun k hk => by simp at hk; subst hk; exact .inr (.inl hbl))
      have HTT : Hid (M.t (.mk 1 [] 0 A1 cap1 L 0) = R) := Lib.hid (by
        have h5 := HR.out
        rw [List.take_length] at h5
        simp only [M.t, M.ts_map]
        rw [h5, HRD.out]
        rfl)
      have HOP := Lib.hid (pl_open A1 n1 cap1 wr)
      have HSZ := Lib.hid HE.out.size
      have HBL := Lib.hid hbl
      clear hlx hnl hbl
      go_wp2_with (first
        | ((with_reducible refine HOP.out.mono ?_); rintro e w2 ⟨rfl, hE2⟩; have HE2 := Lib.hid hE2; have HBR := Lib.hid (HB.out.ev (HS.out.ev.trans hE2)); obtain ⟨⟨d0, d1, d2, d3, d4⟩, r0, r1, r2, r3, r4⟩ := HBR.out.five; clear hE2))
      (try simp only [Exit.inBlock, Exit.then])
      rw [set5_fold]
      refine bodyPost_ret (results_cell1 rfl _ _ _ _ _ rfl (HBR.out.set5 _ _ _ _ _) Tryz.underlying67 rfl Tryz.sizeTree) rfl ?_
      refine ⟨.mk 1 [] 0 A1 cap1 L 0, by simp only [M.kids, M.kind, M.s, M.n, M.A, M.cap, M.pos]; rw [← HNL.out]; rfl, HTT.out, ?_, (HEW.out.trans HE2.out).box (set5_but _ _ _ _ _ _ _) (by omega)⟩
      exact (((HLX2.out.ev HE2.out)).move (set5_but _ _ _ _ _ _ _) fun k hk => by cases hk).low HSZ.out

set_option maxRecDepth 100000 in
set_option maxHeartbeats 16000000 in
theorem pl_treeUnion (m : PM) (b0 : Nat) (w : World) (h : Qx b0 [] w m) (hk : m.kind = 5) (hkn : m.kids.length ≤ 10000) (ih : ∀ x ∈ m.kids, ∀ w1, Ev w w1 → Calls Tryz.prog 60 #[pv x] w1 (TrOut (pTree x.p) w1)) :
    Calls Tryz.prog 60 #[pv m] w (TrOut (pTree m.p) w) := by
  have hmix : Tryz.prog.follows .mixedOrders = true := by kernel_rfl
  have HT0 := pTree_m m
  rw [hk] at HT0
  obtain ⟨R, hR⟩ : ∃ R, R = pTree m.p := ⟨_, rfl⟩
  rw [← hR] at HT0 ⊢
  have HRT : Hid (R = pOpen ([bUnion].map pAtom ++ m.kids.map fun x => pTree x.p)) := Lib.hid HT0
  obtain ⟨hex, hlx, hco, hlf, hrt, hag, hks, hkq⟩ := h.at
  have hps := h.ps
  have hkc := h.ps.le
  have hkm := h.ps.max
  have HIH := Lib.hid ih
  unfold pv Sle.v PM.kv TrOut
  unfold pv Sle.v PM.kv TrOut at HIH
  rw [hk]
  clear hks hkq h
  generalize m.A = mA at *
  generalize m.cap = mcap at *
  have HPS := Lib.hid hps
  obtain ⟨w0, hw0, hE0, hX, hB⟩ := bx_plr w (.int .i64 5) (.string ⟨m.name.toArray⟩) (.slice m.ex.A m.ex.l.length m.ex.cap) (.slice m.co.A m.co.l.length m.co.cap) (.slice m.lf.A m.lf.l.length m.lf.cap) (.slice m.rt.A m.rt.l.length m.rt.cap) (.slice m.ag.A m.ag.l.length m.ag.cap) (.slice mA m.kids.length mcap)
  obtain ⟨⟨p0, p1, p2, p3, p4, p5, p6, p7⟩, _⟩ := hX.eight
  have HX := Lib.hid hX
  have HB := Lib.hid hB
  have HE := Lib.hid hE0
  have HEX := Lib.hid hex
  have HLX := Lib.hid hlx
  have HCO := Lib.hid hco
  have HLF := Lib.hid hlf
  have HRI := Lib.hid hrt
  have HAG := Lib.hid hag
  have HKN := Lib.hid hkn
  clear HT0 hX hB hE0 hex hlx hco hlf hrt hag ih hR hk hps
  have hAT : Calls Tryz.prog 109 #[.slice (some ⟨w0.heap.size, 0, none⟩) 1 1] (w0.alloc (.cells #[.string ⟨#[117, 110, 105, 111, 110]⟩] 9)) (AsOut ([bUnion].map pAtom) (w0.alloc (.cells #[.string ⟨#[117, 110, 105, 111, 110]⟩] 9))) := pl_atoms [bUnion] _ _ _ _ (Ss.made w0 [bUnion] _ rfl (by simp)) (by simp)
  unfold AsOut at hAT
  have HAT := Lib.hid hAT
  clear hAT
  go_enter Tryz.func60, Tryz.ntmps60
  go_wp2_with (first
    | ((with_reducible refine HAT.out.mono ?_); rintro e w1 ⟨A3, n3, cap3, L3, rfl, hK, hLT⟩; have HK := Lib.hid (KdSt.since (Ev.alloc w0 _) hK); have HLT := Lib.hid hLT; clear hK hLT; clear p0 p1 p2 p3 p4 p5 p6 p7; obtain ⟨⟨p0, p1, p2, p3, p4, p5, p6, p7⟩, _⟩ := (HX.out.ev HK.out.ev).eight))
  have HLE : Hid (L3.length ≤ 30000) := Lib.hid (by have := congrArg List.length HLT.out; simp at this; omega)
  have HLN := Lib.hid HK.out.len
  obtain ⟨hd, hhd⟩ : ∃ hd, hd = L3.map M.t := ⟨_, rfl⟩
  have HRD : Hid (R = pOpen (hd ++ m.kids.map fun x => pTree x.p)) := Lib.hid (by rw [HRT.out, hhd, HLT.out])
  have HHD := Lib.hid hhd
  clear hhd
  go_loopw [3, 93] (fun kv iv wr => ∃ (A1 : Option Addr) (n1 cap1 j : Nat) (L : List M), kv = .slice A1 n1 cap1 ∧ iv = .int .i64 (j : Int) ∧ j ≤ m.kids.length ∧ Hid (KdSt w0 A1 n1 cap1 L wr) ∧ Hid (L.map M.t = hd ++ (m.kids.take j).map fun x => pTree x.p)) (fun _ iv _ => m.kids.length - (intOf iv).toNat)
  case atStart => exact ⟨_, n3, cap3, 0, L3, rfl, rfl, Nat.zero_le _, HK, Lib.hid (by rw [HHD.out]; simp)⟩
  case round =>
    obtain ⟨A1, n1, cap1, j, L, rfl, rfl, hj, HS, HR⟩ := hrel
    have HEW := Lib.hid (HE.out.trans HS.out.ev)
    by_cases hlt : j < m.kids.length
    · obtain ⟨x, hx⟩ := HPS.out.at hlt
      obtain ⟨b, off, rfl, hb_, _⟩ := HPS.out.rd (by omega)
      obtain ⟨x0, x1, x2, x3, x4, x5, x6, x7⟩ := Ps.cell (HPS.out.ev HEW.out) hx
      unfold Sle.v PM.kv at *
      have hxm := List.mem_of_getElem? hx
      have HTK : Hid ((m.kids.take (j + 1)).map (fun x => pTree x.p) = (m.kids.take j).map (fun x => pTree x.p) ++ [pTree x.p]) := Lib.hid (by
        obtain ⟨hk2, e⟩ := List.getElem?_eq_some_iff.1 hx
        rw [List.take_succ_eq_append_getElem hk2, e, List.map_append]
        rfl)
      have HI := Lib.hid (fun w1 (hE : Ev w w1) => HIH.out x hxm w1 hE)
      have HLL := Lib.hid HS.out.len
      have HNL : Hid (L.length ≤ 50000) := Lib.hid (by
        have h5 := congrArg List.length HR.out
        rw [List.length_append, List.length_map, List.length_map, HHD.out, List.length_map, List.length_take] at h5
        have := HLE.out; have := HKN.out
        omega)
      have i1 : (0 : Int) ≤ (j : Int) := by omega
      have i2 : (j : Int) < (m.kids.length : Int) := by omega
      clear hx hxm
      go_wp2_with (first
        | ((with_reducible refine (HI.out _ (HEW.out.trans (Ev.alloc wr _))).mono ?_); rintro e w1 ⟨x', rfl, hxt, hxl, hE1⟩; have HXT := Lib.hid hxt; have HXL := Lib.hid hxl; have E1 := Lib.hid ((Ev.alloc wr _).trans hE1); clear hxt hxl)
        | ((show wpList _ _ _ (⟨some 101, _, _, _, _, _⟩ :: _) _ _); refine wpList_append_ow (o := ⟨some 101, _, _, _, _, _⟩) rfl 65 (.tmp 97) (.tmp 100) rfl encM Tryz.underlying65 Tryz.infoTree rfl rfl (HS.out.own.ev (E1.out.trans (Ev.alloc w1 _))) (some ⟨w1.heap.size, 0, none⟩) 1 1 [x'] rfl (Sl.one (et := 67) encM w1 x' _ rfl) (by have := HNL.out; simp; omega) (by have := HNL.out; simp; omega) ((HS.out.ev.trans E1.out).trans (Ev.alloc w1 _)).size ?_; intro v2 w2 hA2; obtain ⟨A2, cap2, rfl, ST2⟩ := HS.out.next (E1.out.trans (Ev.alloc w1 _)) ((HXL.out.low (Ev.alloc wr (.cells #[.int .i64 x.kind, .string ⟨x.name.toArray⟩, .slice x.ex.A x.ex.l.length x.ex.cap, .slice x.co.A x.co.l.length x.co.cap, .slice x.lf.A x.lf.l.length x.lf.cap, .slice x.rt.A x.rt.l.length x.rt.cap, .slice x.ag.A x.ag.l.length x.ag.cap, .slice x.A x.kids.length x.cap] 27)).size).ev (Ev.alloc w1 _)) hA2))
      go_roundw
      case rel => exact ⟨A2, n1 + 1, cap2, j + 1, L ++ [x'], rfl, by go_num, by omega, Lib.hid ST2, Lib.hid (by rw [HTK.out, List.map_append, HR.out, List.map_cons, List.map_nil, HXT.out, List.append_assoc])⟩
      case measure => simp [intOf]; omega
    · obtain rfl : j = m.kids.length := by omega
      obtain ⟨hlx, hnl⟩ := HS.out.done
      have HNL := Lib.hid hnl
      have hbl := HB.out.lt
      have HLX2 := Lib.hid (hlx.less (K' := [w.heap.size + 1]) fun k hk => by simp at hk; subst hk; exact .inr (.inl hbl))
      have HTT : Hid (M.t (.mk 1 [] 0 A1 cap1 L 0) = R) := Lib.hid (by
        have h5 := HR.out
        rw [List.take_length] at h5
        simp only [M.t, M.ts_map]
        rw [h5, HRD.out]
        rfl)
      have HOP := Lib.hid (pl_open A1 n1 cap1 wr)
      have HSZ := Lib.hid HE.out.size
      have HBL := Lib.hid hbl
      clear hlx hnl hbl
      go_wp2_with (first
        | ((with_reducible refine HOP.out.mono ?_); rintro e w2 ⟨rfl, hE2⟩; have HE2 := Lib.hid hE2; have HBR := Lib.hid (HB.out.ev (HS.out.ev.trans hE2)); obtain ⟨⟨d0, d1, d2, d3, d4⟩, r0, r1, r2, r3, r4⟩ := HBR.out.five; clear hE2))
      (try simp only [Exit.inBlock, Exit.then])
      rw [set5_fold]
      refine bodyPost_ret (results_cell1 rfl _ _ _ _ _ rfl (HBR.out.set5 _ _ _ _ _) Tryz.underlying67 rfl Tryz.sizeTree) rfl ?_
      refine ⟨.mk 1 [] 0 A1 cap1 L 0, by simp only [M.kids, M.kind, M.s, M.n, M.A, M.cap, M.pos]; rw [← HNL.out]; rfl, HTT.out, ?_, (HEW.out.trans HE2.out).box (set5_but _ _ _ _ _ _ _) (by omega)⟩
      exact (((HLX2.out.ev HE2.out)).move (set5_but _ _ _ _ _ _ _) fun k hk => by cases hk).low HSZ.out

set_option maxRecDepth 100000 in
set_option maxHeartbeats 16000000 in
theorem pl_treeDistinct (m : PM) (b0 : Nat) (w : World) (h : Qx b0 [] w m) (hk : m.kind = 6) (hkn : m.kids.length ≤ 10000) (ih : ∀ x ∈ m.kids, ∀ w1, Ev w w1 → Calls Tryz.prog 60 #[pv x] w1 (TrOut (pTree x.p) w1)) :
    Calls Tryz.prog 60 #[pv m] w (TrOut (pTree m.p) w) := by
  have hmix : Tryz.prog.follows .mixedOrders = true := by kernel_rfl
  have HT0 := pTree_m m
  rw [hk] at HT0
  obtain ⟨R, hR⟩ : ∃ R, R = pTree m.p := ⟨_, rfl⟩
  rw [← hR] at HT0 ⊢
  have HRT : Hid (R = pOpen ([bDistinct].map pAtom ++ m.kids.map fun x => pTree x.p)) := Lib.hid HT0
  obtain ⟨hex, hlx, hco, hlf, hrt, hag, hks, hkq⟩ := h.at
  have hps := h.ps
  have hkc := h.ps.le
  have hkm := h.ps.max
  have HIH := Lib.hid ih
  unfold pv Sle.v PM.kv TrOut
  unfold pv Sle.v PM.kv TrOut at HIH
  rw [hk]
  clear hks hkq h
  generalize m.A = mA at *
  generalize m.cap = mcap at *
  have HPS := Lib.hid hps
  obtain ⟨w0, hw0, hE0, hX, hB⟩ := bx_plr w (.int .i64 6) (.string ⟨m.name.toArray⟩) (.slice m.ex.A m.ex.l.length m.ex.cap) (.slice m.co.A m.co.l.length m.co.cap) (.slice m.lf.A m.lf.l.length m.lf.cap) (.slice m.rt.A m.rt.l.length m.rt.cap) (.slice m.ag.A m.ag.l.length m.ag.cap) (.slice mA m.kids.length mcap)
  obtain ⟨⟨p0, p1, p2, p3, p4, p5, p6, p7⟩, _⟩ := hX.eight
  have HX := Lib.hid hX
  have HB := Lib.hid hB
  have HE := Lib.hid hE0
  have HEX := Lib.hid hex
  have HLX := Lib.hid hlx
  have HCO := Lib.hid hco
  have HLF := Lib.hid hlf
  have HRI := Lib.hid hrt
  have HAG := Lib.hid hag
  have HKN := Lib.hid hkn
  clear HT0 hX hB hE0 hex hlx hco hlf hrt hag ih hR hk hps
  have hAT : Calls Tryz.prog 109 #[.slice (some ⟨w0.heap.size, 0, none⟩) 1 1] (w0.alloc (.cells #[.string ⟨#[100, 105, 115, 116, 105, 110, 99, 116]⟩] 9)) (AsOut ([bDistinct].map pAtom) (w0.alloc (.cells #[.string ⟨#[100, 105, 115, 116, 105, 110, 99, 116]⟩] 9))) := pl_atoms [bDistinct] _ _ _ _ (Ss.made w0 [bDistinct] _ rfl (by simp)) (by simp)
  unfold AsOut at hAT
  have HAT := Lib.hid hAT
  clear hAT
  go_enter Tryz.func60, Tryz.ntmps60
  go_wp2_with (first
    | ((with_reducible refine HAT.out.mono ?_); rintro e w1 ⟨A3, n3, cap3, L3, rfl, hK, hLT⟩; have HK := Lib.hid (KdSt.since (Ev.alloc w0 _) hK); have HLT := Lib.hid hLT; clear hK hLT; clear p0 p1 p2 p3 p4 p5 p6 p7; obtain ⟨⟨p0, p1, p2, p3, p4, p5, p6, p7⟩, _⟩ := (HX.out.ev HK.out.ev).eight))
  have HLE : Hid (L3.length ≤ 30000) := Lib.hid (by have := congrArg List.length HLT.out; simp at this; omega)
  have HLN := Lib.hid HK.out.len
  obtain ⟨hd, hhd⟩ : ∃ hd, hd = L3.map M.t := ⟨_, rfl⟩
  have HRD : Hid (R = pOpen (hd ++ m.kids.map fun x => pTree x.p)) := Lib.hid (by rw [HRT.out, hhd, HLT.out])
  have HHD := Lib.hid hhd
  clear hhd
  go_loopw [3, 93] (fun kv iv wr => ∃ (A1 : Option Addr) (n1 cap1 j : Nat) (L : List M), kv = .slice A1 n1 cap1 ∧ iv = .int .i64 (j : Int) ∧ j ≤ m.kids.length ∧ Hid (KdSt w0 A1 n1 cap1 L wr) ∧ Hid (L.map M.t = hd ++ (m.kids.take j).map fun x => pTree x.p)) (fun _ iv _ => m.kids.length - (intOf iv).toNat)
  case atStart => exact ⟨_, n3, cap3, 0, L3, rfl, rfl, Nat.zero_le _, HK, Lib.hid (by rw [HHD.out]; simp)⟩
  case round =>
    obtain ⟨A1, n1, cap1, j, L, rfl, rfl, hj, HS, HR⟩ := hrel
    have HEW := Lib.hid (HE.out.trans HS.out.ev)
    by_cases hlt : j < m.kids.length
    · obtain ⟨x, hx⟩ := HPS.out.at hlt
      obtain ⟨b, off, rfl, hb_, _⟩ := HPS.out.rd (by omega)
      obtain ⟨x0, x1, x2, x3, x4, x5, x6, x7⟩ := Ps.cell (HPS.out.ev HEW.out) hx
      unfold Sle.v PM.kv at *
      have hxm := List.mem_of_getElem? hx
      have HTK : Hid ((m.kids.take (j + 1)).map (fun x => pTree x.p) = (m.kids.take j).map (fun x => pTree x.p) ++ [pTree x.p]) := Lib.hid (by
        obtain ⟨hk2, e⟩ := List.getElem?_eq_some_iff.1 hx
        rw [List.take_succ_eq_append_getElem hk2, e, List.map_append]
        rfl)
      have HI := Lib.hid (fun w1 (hE : Ev w w1) => HIH.out x hxm w1 hE)
      have HLL := Lib.hid HS.out.len
      have HNL : Hid (L.length ≤ 50000) := Lib.hid (by
        have h5 := congrArg List.length HR.out
        rw [List.length_append, List.length_map, List.length_map, HHD.out, List.length_map, List.length_take] at h5
        have := HLE.out; have := HKN.out
        omega)
      have i1 : (0 : Int) ≤ (j : Int) := by omega
      have i2 : (j : Int) < (m.kids.length : Int) := by omega
      clear hx hxm
      go_wp2_with (first
        | ((with_reducible refine (HI.out _ (HEW.out.trans (Ev.alloc wr _))).mono ?_); rintro e w1 ⟨x', rfl, hxt, hxl, hE1⟩; have HXT := Lib.hid hxt; have HXL := Lib.hid hxl; have E1 := Lib.hid ((Ev.alloc wr _).trans hE1); clear hxt hxl)
        | ((show wpList _ _ _ (⟨some 101, _, _, _, _, _⟩ :: _) _ _); refine wpList_append_ow (o := ⟨some 101, _, _, _, _, _⟩) rfl 65 (.tmp 97) (.tmp 100) rfl encM Tryz.underlying65 Tryz.infoTree rfl rfl (HS.out.own.ev (E1.out.trans (Ev.alloc w1 _))) (some ⟨w1.heap.size, 0, none⟩) 1 1 [x'] rfl (Sl.one (et := 67) encM w1 x' _ rfl) (by have := HNL.out; simp; omega) (by have := HNL.out; simp; omega) ((HS.out.ev.trans E1.out).trans (Ev.alloc w1 _)).size ?_; intro v2 w2 hA2; obtain ⟨A2, cap2, rfl, ST2⟩ := HS.out.next (E1.out.trans (Ev.alloc w1 _)) ((HXL.out.low (Ev.alloc wr (.cells #[.int .i64 x.kind, .string ⟨x.name.toArray⟩, .slice x.ex.A x.ex.l.length x.ex.cap, .slice x.co.A x.co.l.length x.co.cap, .slice x.lf.A x.lf.l.length x.lf.cap, .slice x.rt.A x.rt.l.length x.rt.cap, .slice x.ag.A x.ag.l.length x.ag.cap, .slice x.A x.kids.length x.cap] 27)).size).ev (Ev.alloc w1 _)) hA2))
      go_roundw
      case rel => exact ⟨A2, n1 + 1, cap2, j + 1, L ++ [x'], rfl, by go_num, by omega, Lib.hid ST2, Lib.hid (by rw [HTK.out, List.map_append, HR.out, List.map_cons, List.map_nil, HXT.out, List.append_assoc])⟩
      case measure => simp [intOf]; omega
    · obtain rfl : j = m.kids.length := by omega
      obtain ⟨hlx, hnl⟩ := HS.out.done
      have HNL := Lib.hid hnl
      have hbl := HB.out.lt
      have HLX2 := Lib.hid (hlx.less (K' := [w.heap.size + 1]) fun k hk => by simp at hk; subst hk; exact .inr (.inl hbl))
      have HTT : Hid (M.t (.mk 1 [] 0 A1 cap1 L 0) = R) := Lib.hid (by
        have h5 := HR.out
        rw [List.take_length] at h5
        simp only [M.t, M.ts_map]
        rw [h5, HRD.out]
        rfl)
      have HOP := Lib.hid (pl_open A1 n1 cap1 wr)
      have HSZ := Lib.hid HE.out.size
      have HBL := Lib.hid hbl
      clear hlx hnl hbl
      go_wp2_with (first
        | ((with_reducible refine HOP.out.mono ?_); rintro e w2 ⟨rfl, hE2⟩; have HE2 := Lib.hid hE2; have HBR := Lib.hid (HB.out.ev (HS.out.ev.trans hE2)); obtain ⟨⟨d0, d1, d2, d3, d4⟩, r0, r1, r2, r3, r4⟩ := HBR.out.five; clear hE2))
      (try simp only [Exit.inBlock, Exit.then])
      rw [set5_fold]
      refine bodyPost_ret (results_cell1 rfl _ _ _ _ _ rfl (HBR.out.set5 _ _ _ _ _) Tryz.underlying67 rfl Tryz.sizeTree) rfl ?_
      refine ⟨.mk 1 [] 0 A1 cap1 L 0, by simp only [M.kids, M.kind, M.s, M.n, M.A, M.cap, M.pos]; rw [← HNL.out]; rfl, HTT.out, ?_, (HEW.out.trans HE2.out).box (set5_but _ _ _ _ _ _ _) (by omega)⟩
      exact (((HLX2.out.ev HE2.out)).move (set5_but _ _ _ _ _ _ _) fun k hk => by cases hk).low HSZ.out

end Go.Proofs.YtojbahjebfcmgaaGreatDoor

namespace Go.Proofs.YtojbahjebfcmgaaGreatDoor
open Go.RowKit
set_option linter.unusedVariables false

set_option maxRecDepth 100000 in
set_option maxHeartbeats 16000000 in
theorem pl_treeFilter (m : PM) (b0 : Nat) (w : World) (h : Qx b0 [] w m) (hk : m.kind = 2) (hrx : ∀ x ∈ m.ex.l, xRight x.t = true ∧ x.t.size ≤ 16000 ∧ x.t.every (fun t => decide (t.s.length ≤ 1000000)) = true) (hel : m.ex.l.length ≤ 10000) (hkn : m.kids.length ≤ 10000) (ih : ∀ x ∈ m.kids, ∀ w1, Ev w w1 → Calls Tryz.prog 60 #[pv x] w1 (TrOut (pTree x.p) w1)) :
    Calls Tryz.prog 60 #[pv m] w (TrOut (pTree m.p) w) := by
  have hmix : Tryz.prog.follows .mixedOrders = true := by kernel_rfl
  have HT0 := pTree_m m
  rw [hk] at HT0
  obtain ⟨R, hR⟩ : ∃ R, R = pTree m.p := ⟨_, rfl⟩
  rw [← hR] at HT0 ⊢
  have HRT : Hid (R = pOpen (([bFilter].map pAtom ++ (m.ex.l.map M.t).map xTree) ++ m.kids.map fun x => pTree x.p)) := Lib.hid HT0
  obtain ⟨hex, hlx, hco, hlf, hrt, hag, hks, hkq⟩ := h.at
  have hps := h.ps
  have hkc := h.ps.le
  have hkm := h.ps.max
  have HIH := Lib.hid ih
  unfold pv Sle.v PM.kv TrOut
  unfold pv Sle.v PM.kv TrOut at HIH
  rw [hk]
  clear hks hkq h
  generalize m.A = mA at *
  generalize m.cap = mcap at *
  have HPS := Lib.hid hps
  obtain ⟨w0, hw0, hE0, hX, hB⟩ := bx_plr w (.int .i64 2) (.string ⟨m.name.toArray⟩) (.slice m.ex.A m.ex.l.length m.ex.cap) (.slice m.co.A m.co.l.length m.co.cap) (.slice m.lf.A m.lf.l.length m.lf.cap) (.slice m.rt.A m.rt.l.length m.rt.cap) (.slice m.ag.A m.ag.l.length m.ag.cap) (.slice mA m.kids.length mcap)
  obtain ⟨⟨p0, p1, p2, p3, p4, p5, p6, p7⟩, _⟩ := hX.eight
  have HX := Lib.hid hX
  have HB := Lib.hid hB
  have HE := Lib.hid hE0
  have HEX := Lib.hid hex
  have HLX := Lib.hid hlx
  have HCO := Lib.hid hco
  have HLF := Lib.hid hlf
  have HRI := Lib.hid hrt
  have HAG := Lib.hid hag
  have HKN := Lib.hid hkn
  clear HT0 hX hB hE0 hex hlx hco hlf hrt hag ih hR hk hps
  have hes := HEX.out.sl
  have hec := hes.le
  have hem := hes.max
  have HTR := Lib.hid (fun x (hx : x ∈ m.ex.l) w1 (hE : Ev w w1) => ex_Tree x b0 w1 ((HLX.out x hx).ev hE) (hrx x hx).1 (hrx x hx).2.1 (hrx x hx).2.2)
  unfold TrOut ev_ M.kv at HTR
  have HEL := Lib.hid hel
  generalize m.ex.A = eA at *
  generalize m.ex.cap = ecap at *
  have HES := Lib.hid hes
  clear hes hrx hel
  have hAT : Calls Tryz.prog 109 #[.slice (some ⟨w0.heap.size, 0, none⟩) 1 1] (w0.alloc (.cells #[.string ⟨#[102, 105, 108, 116, 101, 114]⟩] 9)) (AsOut ([bFilter].map pAtom) (w0.alloc (.cells #[.string ⟨#[102, 105, 108, 116, 101, 114]⟩] 9))) := pl_atoms [bFilter] _ _ _ _ (Ss.made w0 [bFilter] _ rfl (by simp)) (by simp)
  unfold AsOut at hAT
  have HAT := Lib.hid hAT
  clear hAT
  go_enter Tryz.func60, Tryz.ntmps60
  go_wp2_with (first
    | ((with_reducible refine HAT.out.mono ?_); rintro e w1 ⟨A3, n3, cap3, L3, rfl, hK, hLT⟩; have HK := Lib.hid (KdSt.since (Ev.alloc w0 _) hK); have HLT := Lib.hid hLT; clear hK hLT; clear p0 p1 p2 p3 p4 p5 p6 p7; obtain ⟨⟨p0, p1, p2, p3, p4, p5, p6, p7⟩, _⟩ := (HX.out.ev HK.out.ev).eight))
  go_loopw [3, 25] (fun kv iv wr => ∃ (A1 : Option Addr) (n1 cap1 j : Nat) (L : List M), kv = .slice A1 n1 cap1 ∧ iv = .int .i64 (j : Int) ∧ j ≤ m.ex.l.length ∧ Hid (KdSt w0 A1 n1 cap1 L wr) ∧ Hid (L.map M.t = [bFilter].map pAtom ++ (m.ex.l.take j).map fun x => xTree x.t)) (fun _ iv _ => m.ex.l.length - (intOf iv).toNat)
  case atStart => exact ⟨_, n3, cap3, 0, L3, rfl, rfl, Nat.zero_le _, HK, Lib.hid (by rw [HLT.out]; simp)⟩
  case round =>
    obtain ⟨A5, n5, cap5, j, L5, rfl, rfl, hj, HS, HR⟩ := hrel
    have HEW := Lib.hid (HE.out.trans HS.out.ev)
    clear p0 p1 p2 p3 p4 p5 p6 p7
    obtain ⟨⟨p0, p1, p2, p3, p4, p5, p6, p7⟩, _⟩ := (HX.out.ev HS.out.ev).eight
    by_cases hlt : j < m.ex.l.length
    · obtain ⟨x, hx⟩ := HES.out.at hlt
      obtain ⟨b, off, rfl, hb, x0, x1, x2, x3⟩ := Es.cell (HES.out.ev HEW.out) hx
      unfold M.kv at x3
      have hxm := List.mem_of_getElem? hx
      have HTK : Hid ((m.ex.l.take (j + 1)).map (fun x => xTree x.t) = (m.ex.l.take j).map (fun x => xTree x.t) ++ [xTree x.t]) := Lib.hid (by
        obtain ⟨hk2, e⟩ := List.getElem?_eq_some_iff.1 hx
        rw [List.take_succ_eq_append_getElem hk2, e, List.map_append]
        rfl)
      have HI := Lib.hid (HTR.out x hxm)
      have HLL := Lib.hid HS.out.len
      have HNL : Hid (L5.length ≤ 10001) := Lib.hid (by
        have h5 := congrArg List.length HR.out
        rw [List.length_append, List.length_map, List.length_map, List.length_map, List.length_take] at h5
        have := HEL.out
        simp at h5
        omega)
      have i1 : (0 : Int) ≤ (j : Int) := by omega
      have i2 : (j : Int) < (m.ex.l.length : Int) := by omega
      clear hx hxm
      go_wp2_with (first
        | ((with_reducible refine (HI.out _ (HEW.out.trans (Ev.alloc wr _))).mono ?_); rintro e w5 ⟨x', rfl, hxt, hxl, hE1⟩; have HXT := Lib.hid hxt; have HXL := Lib.hid hxl; have E1 := Lib.hid ((Ev.alloc wr _).trans hE1); clear hxt hxl)
        | ((show wpList _ _ _ (⟨some 33, _, _, _, _, _⟩ :: _) _ _); refine wpList_append_ow (o := ⟨some 33, _, _, _, _, _⟩) rfl 65 (.tmp 29) (.tmp 32) rfl encM Tryz.underlying65 Tryz.infoTree rfl rfl (HS.out.own.ev (E1.out.trans (Ev.alloc w5 _))) (some ⟨w5.heap.size, 0, none⟩) 1 1 [x'] rfl (Sl.one (et := 67) encM w5 x' _ rfl) (by have := HNL.out; simp; omega) (by have := HNL.out; simp; omega) ((HS.out.ev.trans E1.out).trans (Ev.alloc w5 _)).size ?_; intro v2 w2 hA2; obtain ⟨A2, cap2, rfl, ST2⟩ := HS.out.next (E1.out.trans (Ev.alloc w5 _)) ((HXL.out.low (Ev.alloc wr (.cells #[.int .i64 x.kind, .string ⟨x.s.toArray⟩, .int .i64 x.n, .slice x.A x.kids.length x.cap] 57)).size).ev (Ev.alloc w5 _)) hA2))
      go_roundw
      case rel => exact ⟨A2, n5 + 1, cap2, j + 1, L5 ++ [x'], rfl, by go_num, by omega, Lib.hid ST2, Lib.hid (by rw [HTK.out, List.map_append, HR.out, show [x'].map M.t = [xTree x.t] by rw [List.map_cons, List.map_nil, HXT.out], List.append_assoc])⟩
      case measure => simp [intOf]; omega
    · obtain rfl : j = m.ex.l.length := by omega
      have HLT5 : Hid (L5.map M.t = [bFilter].map pAtom ++ (m.ex.l.map M.t).map xTree) := Lib.hid (by rw [HR.out, List.take_length, List.map_map]; rfl)
      go_wp2
      have HS0 := HS
      have HLE : Hid (L5.length ≤ 30000) := Lib.hid (by have := congrArg List.length HLT5.out; simp at this; have := HEL.out; omega)
      have HLN := Lib.hid HS0.out.len
      obtain ⟨hd, hhd⟩ : ∃ hd, hd = L5.map M.t := ⟨_, rfl⟩
      have HRD : Hid (R = pOpen (hd ++ m.kids.map fun x => pTree x.p)) := Lib.hid (by rw [HRT.out, hhd, HLT5.out])
      have HHD := Lib.hid hhd
      clear hhd
      go_loopw [3, 93] (fun kv iv wr => ∃ (A1 : Option Addr) (n1 cap1 j : Nat) (L : List M), kv = .slice A1 n1 cap1 ∧ iv = .int .i64 (j : Int) ∧ j ≤ m.kids.length ∧ Hid (KdSt w0 A1 n1 cap1 L wr) ∧ Hid (L.map M.t = hd ++ (m.kids.take j).map fun x => pTree x.p)) (fun _ iv _ => m.kids.length - (intOf iv).toNat)
      case atStart => exact ⟨_, n5, cap5, 0, L5, rfl, rfl, Nat.zero_le _, HS0, Lib.hid (by rw [HHD.out]; simp)⟩
      case round =>
        obtain ⟨A1, n1, cap1, j, L, rfl, rfl, hj, HS, HR⟩ := hrel
        have HEW := Lib.hid (HE.out.trans HS.out.ev)
        by_cases hlt : j < m.kids.length
        · obtain ⟨x, hx⟩ := HPS.out.at hlt
          obtain ⟨b, off, rfl, hb_, _⟩ := HPS.out.rd (by omega)
          obtain ⟨x0, x1, x2, x3, x4, x5, x6, x7⟩ := Ps.cell (HPS.out.ev HEW.out) hx
          unfold Sle.v PM.kv at *
          have hxm := List.mem_of_getElem? hx
          have HTK : Hid ((m.kids.take (j + 1)).map (fun x => pTree x.p) = (m.kids.take j).map (fun x => pTree x.p) ++ [pTree x.p]) := Lib.hid (by
            obtain ⟨hk2, e⟩ := List.getElem?_eq_some_iff.1 hx
            rw [List.take_succ_eq_append_getElem hk2, e, List.map_append]
            rfl)
          have HI := Lib.hid (fun w1 (hE : Ev w w1) => HIH.out x hxm w1 hE)
          have HLL := Lib.hid HS.out.len
          have HNL : Hid (L.length ≤ 50000) := Lib.hid (by
            have h5 := congrArg List.length HR.out
            rw [List.length_append, List.length_map, List.length_map, HHD.out, List.length_map, List.length_take] at h5
            have := HLE.out; have := HKN.out
            omega)
          have i1 : (0 : Int) ≤ (j : Int) := by omega
          have i2 : (j : Int) < (m.kids.length : Int) := by omega
          clear hx hxm
          go_wp2_with (first
            | ((with_reducible refine (HI.out _ (HEW.out.trans (Ev.alloc wr _))).mono ?_); rintro e w1 ⟨x', rfl, hxt, hxl, hE1⟩; have HXT := Lib.hid hxt; have HXL := Lib.hid hxl; have E1 := Lib.hid ((Ev.alloc wr _).trans hE1); clear hxt hxl)
            | ((show wpList _ _ _ (⟨some 101, _, _, _, _, _⟩ :: _) _ _); refine wpList_append_ow (o := ⟨some 101, _, _, _, _, _⟩) rfl 65 (.tmp 97) (.tmp 100) rfl encM Tryz.underlying65 Tryz.infoTree rfl rfl (HS.out.own.ev (E1.out.trans (Ev.alloc w1 _))) (some ⟨w1.heap.size, 0, none⟩) 1 1 [x'] rfl (Sl.one (et := 67) encM w1 x' _ rfl) (by have := HNL.out; simp; omega) (by have := HNL.out; simp; omega) ((HS.out.ev.trans E1.out).trans (Ev.alloc w1 _)).size ?_; intro v2 w2 hA2; obtain ⟨A2, cap2, rfl, ST2⟩ := HS.out.next (E1.out.trans (Ev.alloc w1 _)) ((HXL.out.low (Ev.alloc wr (.cells #[.int .i64 x.kind, .string ⟨x.name.toArray⟩, .slice x.ex.A x.ex.l.length x.ex.cap, .slice x.co.A x.co.l.length x.co.cap, .slice x.lf.A x.lf.l.length x.lf.cap, .slice x.rt.A x.rt.l.length x.rt.cap, .slice x.ag.A x.ag.l.length x.ag.cap, .slice x.A x.kids.length x.cap] 27)).size).ev (Ev.alloc w1 _)) hA2))
          go_roundw
          case rel => exact ⟨A2, n1 + 1, cap2, j + 1, L ++ [x'], rfl, by go_num, by omega, Lib.hid ST2, Lib.hid (by rw [HTK.out, List.map_append, HR.out, List.map_cons, List.map_nil, HXT.out, List.append_assoc])⟩
          case measure => simp [intOf]; omega
        · obtain rfl : j = m.kids.length := by omega
          obtain ⟨hlx, hnl⟩ := HS.out.done
          have HNL := Lib.hid hnl
          have hbl := HB.out.lt
          have HLX2 := Lib.hid (hlx.less (K' := [w.heap.size + 1]) fun k hk => by simp at hk; subst hk; exact .inr (.inl hbl))
          have HTT : Hid (M.t (.mk 1 [] 0 A1 cap1 L 0) = R) := Lib.hid (by
            have h5 := HR.out
            rw [List.take_length] at h5
            simp only [M.t, M.ts_map]
            rw [h5, HRD.out]
            rfl)
          have HOP := Lib.hid (pl_open A1 n1 cap1 wr)
          have HSZ := Lib.hid HE.out.size
          have HBL := Lib.hid hbl
          clear hlx hnl hbl
          go_wp2_with (first
            | ((with_reducible refine HOP.out.mono ?_); rintro e w2 ⟨rfl, hE2⟩; have HE2 := Lib.hid hE2; have HBR := Lib.hid (HB.out.ev (HS.out.ev.trans hE2)); obtain ⟨⟨d0, d1, d2, d3, d4⟩, r0, r1, r2, r3, r4⟩ := HBR.out.five; clear hE2))
          (try simp only [Exit.inBlock, Exit.then])
          rw [set5_fold]
          refine bodyPost_ret (results_cell1 rfl _ _ _ _ _ rfl (HBR.out.set5 _ _ _ _ _) Tryz.underlying67 rfl Tryz.sizeTree) rfl ?_
          refine ⟨.mk 1 [] 0 A1 cap1 L 0, by simp only [M.kids, M.kind, M.s, M.n, M.A, M.cap, M.pos]; rw [← HNL.out]; rfl, HTT.out, ?_, (HEW.out.trans HE2.out).box (set5_but _ _ _ _ _ _ _) (by omega)⟩
          exact (((HLX2.out.ev HE2.out)).move (set5_but _ _ _ _ _ _ _) fun k hk => by cases hk).low HSZ.out
end Go.Proofs.YtojbahjebfcmgaaGreatDoor
