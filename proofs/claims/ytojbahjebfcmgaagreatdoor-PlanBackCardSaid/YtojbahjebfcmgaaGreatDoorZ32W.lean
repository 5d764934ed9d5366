/-
  Texts that belong together: Package plan: the tree of a project. Package plan: the tree of a join.
-/
import Derived.Test.YtojbahjebfcmgaaGreatDoorZ31W
import Derived.Test.YtojbahjebfcmgaaGreatDoorZ29W
import Derived.Test.YtojbahjebfcmgaaGreatDoorZ30W
namespace Go.Proofs.YtojbahjebfcmgaaGreatDoor
open Go.RowKit
set_option linter.unusedVariables false

/-- A slice of trees that another tree will hold. -/
def FO (b0 : Nat) (Ts : List T) (K : List Nat) (v : Value) (u : World) : Prop := ∃ A n cap L, v = .slice A n cap ∧ n = L.length ∧ L.map M.t = Ts ∧ Lies b0 K u (.mk 1 [] 0 A cap L 0)
theorem FO.jf (b0 : Nat) (Ts : List T) : JF (FO b0 Ts) := ⟨fun K v u u' hE ⟨A, n, cap, L, e, h1, h2, h3⟩ => ⟨A, n, cap, L, e, h1, h2, h3.ev hE⟩, fun K v u hK ⟨A, n, cap, L, e, h1, h2, h3⟩ => ⟨A, n, cap, L, e, h1, h2, h3.less fun k hk => .inr (.inr (hK k hk))⟩⟩
theorem AsOut.fo {Ts : List T} {w : World} {e : Ending} {w' : World} {b0 : Nat} {K : List Nat} (h : AsOut Ts w e w') (hb : b0 ≤ w.heap.size) (hK : ∀ k ∈ K, k < w.heap.size) : ∃ v, e = .returned v ∧ FO b0 Ts K v w' ∧ Ev w w' := by
  obtain ⟨A, n, cap, L, rfl, h1, h2⟩ := h
  obtain ⟨h3, h4⟩ := h1.done
  exact ⟨_, rfl, ⟨A, n, cap, L, rfl, h4, h2, (h3.less fun k hk => .inr (.inl (hK k hk))).low hb⟩, h1.ev⟩
theorem AsOut.fm {Ts : List T} {w : World} {e : Ending} {w' : World} {b0 : Nat} {K : List Nat} (h : AsOut Ts w e w') (hb : b0 ≤ w.heap.size) (hK : ∀ k ∈ K, k < w.heap.size) : ∃ v, e = .returned v ∧ FM b0 Ts K v w' ∧ Ev w w' := by
  obtain ⟨v, rfl, h1, h2, h3⟩ := h.p0 (Nat.le_refl _)
  obtain ⟨A, n, cap, L, e, h4, h5, h6⟩ := h1.fm rfl
  exact ⟨v, rfl, ⟨A, n, cap, L, e, h4, h5, fun x hx => ((h6 x hx).less fun k hk => .inr (.inl (hK k hk))).low hb⟩, h3⟩
theorem run_build_tree2 {ρ : Operand → Value} {o : Oper} {x y : Operand} (m m' : M) (ho : o.op = .buildSlice 65 2 #[(0, x), (1, y)]) (h : ρ x = .agg #[.int .i64 m.kind, .string ⟨m.s.toArray⟩, .int .i64 m.n, .slice m.A m.kids.length m.cap, .int .i64 (m.pos : Int)]) (h' : ρ y = .agg #[.int .i64 m'.kind, .string ⟨m'.s.toArray⟩, .int .i64 m'.n, .slice m'.A m'.kids.length m'.cap, .int .i64 (m'.pos : Int)]) (w : World) :
    (execOp ρ o).run Tryz.prog w = .ok (.value (.slice (some ⟨w.heap.size, 0, none⟩) 2 2)) (w.alloc (.cells #[.int .i64 m.kind, .string ⟨m.s.toArray⟩, .int .i64 m.n, .slice m.A m.kids.length m.cap, .int .i64 (m.pos : Int), .int .i64 m'.kind, .string ⟨m'.s.toArray⟩, .int .i64 m'.n, .slice m'.A m'.kids.length m'.cap, .int .i64 (m'.pos : Int)] 67)) := by
  unfold execOp
  rw [ho]
  simp [h, h', go_sem]
theorem FT.slice2 {b0 : Nat} {t t' : T} {K : List Nat} {u : World} (x y : M) (h : x.t = t) (h' : y.t = t') (hl : Lies b0 K u x) (hl' : Lies b0 K u y) : FM b0 [t, t'] K (.slice (some ⟨u.heap.size, 0, none⟩) 2 2) (u.alloc (.cells #[.int .i64 x.kind, .string ⟨x.s.toArray⟩, .int .i64 x.n, .slice x.A x.kids.length x.cap, .int .i64 (x.pos : Int), .int .i64 y.kind, .string ⟨y.s.toArray⟩, .int .i64 y.n, .slice y.A y.kids.length y.cap, .int .i64 (y.pos : Int)] 67)) := by
  have hm : Ms (u.alloc (.cells #[.int .i64 x.kind, .string ⟨x.s.toArray⟩, .int .i64 x.n, .slice x.A x.kids.length x.cap, .int .i64 (x.pos : Int), .int .i64 y.kind, .string ⟨y.s.toArray⟩, .int .i64 y.n, .slice y.A y.kids.length y.cap, .int .i64 (y.pos : Int)] 67)) (some ⟨u.heap.size, 0, none⟩) 2 2 [x, y] := by
    obtain ⟨A, cap, hv, hS, _⟩ := (Ow.made (et := 67) (base := u.heap.size) encM u [x, y] #[.int .i64 x.kind, .string ⟨x.s.toArray⟩, .int .i64 x.n, .slice x.A x.kids.length x.cap, .int .i64 (x.pos : Int), .int .i64 y.kind, .string ⟨y.s.toArray⟩, .int .i64 y.n, .slice y.A y.kids.length y.cap, .int .i64 (y.pos : Int)] rfl (Nat.le_refl _) (by simp)).form encM
    injection hv with h1 _ h3
    subst h1; subst h3
    exact hS
  refine ⟨_, 2, 2, [x, y], rfl, hm, by rw [List.map_cons, List.map_cons, List.map_nil, h, h'], fun z hz => ?_⟩
  simp at hz
  rcases hz with rfl | rfl
  · exact hl.ev (Ev.alloc _ _)
  · exact hl'.ev (Ev.alloc _ _)

set_option maxRecDepth 100000 in
set_option maxHeartbeats 16000000 in
theorem pl_treeProject (m : PM) (b0 : Nat) (w : World) (h : Qx b0 [] w m) (hk : m.kind = 3) (hrx : ∀ x ∈ m.ex.l, xRight x.t = true ∧ x.t.size ≤ 16000 ∧ x.t.every (fun t => decide (t.s.length ≤ 1000000)) = true) (hel : m.ex.l.length ≤ 10000) (hec : m.ex.l.length = m.co.l.length) (hkn : m.kids.length ≤ 10000) (ih : ∀ x ∈ m.kids, ∀ w1, Ev w w1 → Calls Tryz.prog 60 #[pv x] w1 (TrOut (pTree x.p) w1)) :
    Calls Tryz.prog 60 #[pv m] w (TrOut (pTree m.p) w) := by
  have hmix : Tryz.prog.follows .mixedOrders = true := by kernel_rfl
  have HT0 := pTree_m m
  rw [hk] at HT0
  obtain ⟨R, hR⟩ : ∃ R, R = pTree m.p := ⟨_, rfl⟩
  rw [← hR] at HT0 ⊢
  have HRT : Hid (R = pOpen (([bProject].map pAtom ++ List.zipWith colTree m.co.l (m.ex.l.map M.t)) ++ m.kids.map fun x => pTree x.p)) := Lib.hid HT0
  obtain ⟨hex, hlx, hco, hlf, hrt, hag, hks, hkq⟩ := h.at
  have hps := h.ps
  have hkc := h.ps.le
  have hkm := h.ps.max
  have HIH := Lib.hid ih
  unfold pv Sle.v PM.kv TrOut
  unfold pv Sle.v PM.kv TrOut at HIH
  rw [hk]
  clear hks hkq h
  generalize m.A = mA at *
  generalize m.cap = mcap at *
  have HPS := Lib.hid hps
  obtain ⟨w0, hw0, hE0, hX, hB⟩ := bx_plr w (.int .i64 3) (.string ⟨m.name.toArray⟩) (.slice m.ex.A m.ex.l.length m.ex.cap) (.slice m.co.A m.co.l.length m.co.cap) (.slice m.lf.A m.lf.l.length m.lf.cap) (.slice m.rt.A m.rt.l.length m.rt.cap) (.slice m.ag.A m.ag.l.length m.ag.cap) (.slice mA m.kids.length mcap)
  obtain ⟨⟨p0, p1, p2, p3, p4, p5, p6, p7⟩, _⟩ := hX.eight
  have HX := Lib.hid hX
  have HB := Lib.hid hB
  have HE := Lib.hid hE0
  have HEX := Lib.hid hex
  have HLX := Lib.hid hlx
  have HCO := Lib.hid hco
  have HLF := Lib.hid hlf
  have HRI := Lib.hid hrt
  have HAG := Lib.hid hag
  have HKN := Lib.hid hkn
  clear HT0 hX hB hE0 hex hlx hco hlf hrt hag ih hR hk hps
  have HCT : Hid (∀ w1, Ev w w1 → Calls Tryz.prog 111 #[.slice m.co.A m.co.l.length m.co.cap, .slice m.ex.A m.ex.l.length m.ex.cap] w1 (AsOut (List.zipWith colTree m.co.l (m.ex.l.map M.t)) w1)) := Lib.hid (fun w1 hE => by rw [hec]; exact pl_columnTrees m.co.l m.ex.l _ _ _ _ _ b0 w1 (HCO.out.sl.ev hE) (by have := HEX.out.sl.ev hE; rwa [hec] at this) (by omega) (fun x hx => (HLX.out x hx).ev hE) hrx)
  have HEL := Lib.hid hel
  clear hrx hel HEX HCO HLX hec
  generalize m.ex.A = eA at *
  generalize m.ex.cap = ecap at *
  generalize m.co.A = coA at *
  generalize m.co.cap = cocap at *
  go_enter Tryz.func60, Tryz.ntmps60
  go_upto_region 13 with fail
  have JFS : ∀ f ∈ ([(6, 43, FM w0.heap.size (List.zipWith colTree m.co.l (m.ex.l.map M.t)))] : List (Nat × Nat × (List Nat → Value → World → Prop))), JF f.2.2 := fun f hf => by
    simp only [List.mem_cons, List.not_mem_nil, or_false] at hf
    rcases hf with rfl <;> first | exact FT.jf _ _ | exact FM.jf _ _ | exact FO.jf _ _
  have JNE : ∀ f ∈ ([(6, 43, FM w0.heap.size (List.zipWith colTree m.co.l (m.ex.l.map M.t)))] : List (Nat × Nat × (List Nat → Value → World → Prop))), f.1 ≠ 1 ∧ f.2.1 ≠ 38 := fun f hf => by
    simp only [List.mem_cons, List.not_mem_nil, or_false] at hf
    rcases hf with rfl <;> simp
  have JD : ∀ i ∈ ([6] : List Nat), ∀ dd, (i, dd) ∈ ([(6, 43)] : List (Nat × Nat)) → ∀ f ∈ ([(6, 43, FM w0.heap.size (List.zipWith colTree m.co.l (m.ex.l.map M.t)))] : List (Nat × Nat × (List Nat → Value → World → Prop))), f.1 ≠ i → f.2.1 ≠ dd := fun i hi dd hd f hf hne => by
    simp only [List.mem_cons, List.not_mem_nil, or_false, Prod.mk.injEq] at hf hd
    rcases hf with rfl <;> (simp only at hne ⊢; omega)
  refine wp_region_slotsG hmix (fun u => Ev w0 u) (fun p _ _ => match p with | 0 => True | _ + 1 => False) [7] (fun _ _ => True) [0] [[7, 8]] 7 [FSs bProject, fun _ _ => True, fun v _ => v = .pointer (some ⟨w.heap.size, 3, none⟩), fun v _ => v = .slice coA m.co.l.length cocap, fun v _ => v = .pointer (some ⟨w.heap.size, 2, none⟩), fun v _ => v = .slice eA m.ex.l.length ecap, fun _ _ => True, P0T w0.heap.size ([bProject].map pAtom ++ (List.zipWith colTree m.co.l (m.ex.l.map M.t))), P0T w0.heap.size ([bProject].map pAtom ++ (List.zipWith colTree m.co.l (m.ex.l.map M.t)))]
    105 1 rfl (by kernel_rfl) ⟨FSs.mono _, mono_true, mono_eq _, mono_eq _, mono_eq _, mono_eq _, mono_true, P0T.mono _ _, P0T.mono _ _, trivial⟩ ⟨Or.inl rfl, Or.inr fun p => Or.inr fun _ _ _ _ h => h, Or.inr fun p => Or.inr fun _ _ _ _ h => h, Or.inr fun p => Or.inr fun _ _ _ _ h => h, Or.inr fun p => Or.inr fun _ _ _ _ h => h, Or.inr fun p => Or.inr fun _ _ _ _ h => h, Or.inr fun p => Or.inr fun _ _ _ _ h => h, Or.inr fun p => match p with | 0 => Or.inl rfl | _ + 1 => Or.inr fun _ _ _ hb h => hb.elim, Or.inr fun p => match p with | 0 => Or.inl rfl | _ + 1 => Or.inr fun _ _ _ hb h => hb.elim, trivial⟩ (by kernel_rfl) rfl (by kernel_rfl) (fun _ _ _ _ _ => trivial) (fun u u' hE h => h.trans hE) (Ev.refl _) (trivial) (by kernel_rfl) (GJ 1 38 (P0T w0.heap.size ([bProject].map pAtom)) [(6, 43, FM w0.heap.size (List.zipWith colTree m.co.l (m.ex.l.map M.t)))]) [1, 6] (by kernel_rfl) (fun L L' a a' u u' hL ha hE h => GJ.keep (fun v u u' hE h => h.ev hE) JFS (hL 1 (by decide)) (fun f hf => by simp only [List.mem_cons, List.not_mem_nil, or_false] at hf; rcases hf with rfl <;> exact hL _ (by simp)) (ha 1 (by decide) _ (by kernel_rfl)) (fun f hf => by simp only [List.mem_cons, List.not_mem_nil, or_false] at hf; rcases hf with rfl; exact ha 6 (by simp) 43 (by kernel_rfl)) hE h) (fun L hL => GJ.none hL) ?_ ?_ ?_ ?_
  · refine opc_cons 0 ?_ (opc_turn 1 (by decide) (opc_cons 2 ?_ (opc_cons 3 ?_ (opc_cons 4 ?_ (opc_cons 5 ?_ (opc_turn 6 (by decide) (opc_turn 7 (by decide) (opc_cons 8 ?_ (opc_nil 9)))))))))
    · refine opg_makes fun a wq c => ⟨(wanted_plain rfl), _, _, run_build_text bProject rfl (evc a _) wq, Ev.alloc _ _, c.inv.trans (Ev.alloc wq _), ⟨_, rfl, Ss.made wq [bProject] _ rfl (by simp)⟩⟩
    · refine opg_value fun a wq c => ⟨(wanted_plain rfl), .pointer (some ⟨w.heap.size, 3, none⟩), ?_, rfl⟩
      have e_0 : a.eval (.tmp 1) = .pointer (some ⟨w.heap.size, 0, none⟩) := (c.was 1 (by kernel_rfl) rfl)
      generalize a.eval = ρ at e_0 ⊢
      simp [execOp, e_0, go_sem]
    · refine opg_value fun a wq c => ⟨(wanted_plain rfl), .slice coA m.co.l.length cocap, ?_, rfl⟩
      have e_0 : a.eval (.tmp 39) = .pointer (some ⟨w.heap.size, 3, none⟩) := (c.new 2 39 (by kernel_rfl) (by kernel_rfl) (by kernel_rfl))
      have q0 := (c.inv.cell (p := ⟨w.heap.size, 3, none⟩) HX.out.lt).trans p3
      generalize a.eval = ρ at e_0 ⊢
      simp [execOp, e_0, q0, go_sem]
    · refine opg_value fun a wq c => ⟨(wanted_plain rfl), .pointer (some ⟨w.heap.size, 2, none⟩), ?_, rfl⟩
      have e_0 : a.eval (.tmp 1) = .pointer (some ⟨w.heap.size, 0, none⟩) := (c.was 1 (by kernel_rfl) rfl)
      generalize a.eval = ρ at e_0 ⊢
      simp [execOp, e_0, go_sem]
    · refine opg_value fun a wq c => ⟨(wanted_plain rfl), .slice eA m.ex.l.length ecap, ?_, rfl⟩
      have e_0 : a.eval (.tmp 41) = .pointer (some ⟨w.heap.size, 2, none⟩) := (c.new 4 41 (by kernel_rfl) (by kernel_rfl) (by kernel_rfl))
      have q0 := (c.inv.cell (p := ⟨w.heap.size, 2, none⟩) HX.out.lt).trans p2
      generalize a.eval = ρ at e_0 ⊢
      simp [execOp, e_0, q0, go_sem]
    · refine opg_value fun a w c => ⟨(wanted_plain rfl), _, run_assign _ rfl w, (c.new 7 44 (by kernel_rfl) (by kernel_rfl) (by kernel_rfl))⟩
  · refine sps_cons rfl ?_ (sps_cons rfl ?_ sps_nil)
    · refine ops_call fun a wq L c hs hp hu hg => ?_
      obtain ⟨g_, e_, hS_⟩ := (c.got 0 37 (by kernel_rfl) (by kernel_rfl) (by kernel_rfl) rfl : FSs bProject _ _)
      refine ⟨wanted_plain rfl, 109, #[.slice (some ⟨g_, 0, none⟩) 1 1], ?_, ?_⟩
      · rw [run_call 109 _ _ rfl (by kernel_rfl)]
        simp [e_]
      · refine (pl_atoms [bProject] _ 1 1 wq hS_ (by omega)).mono ?_
        rintro r wp hA_
        obtain ⟨v_, rfl, hP_, hn_, hE_⟩ := hA_.p0 (b0 := w0.heap.size) c.inv.size
        exact ⟨v_, rfl, hE_, c.inv.trans hE_, trivial, fun L' h1 h2 => GJ.first JFS hg hu hE_ JNE (Nat.lt_of_lt_of_eq (by decide : 38 < 105) hs.symm) hP_ hn_ h1 h2⟩
    · refine ops_call fun a wq L c hs hp hu hg => ?_
      have e_0 : a.eval (.tmp 40) = .slice coA m.co.l.length cocap := (c.new 3 40 (by kernel_rfl) (by kernel_rfl) (by kernel_rfl))
      have e_1 : a.eval (.tmp 42) = .slice eA m.ex.l.length ecap := (c.new 5 42 (by kernel_rfl) (by kernel_rfl) (by kernel_rfl))
      refine ⟨wanted_plain rfl, 111, #[.slice coA m.co.l.length cocap, .slice eA m.ex.l.length ecap], ?_, ?_⟩
      · rw [run_call 111 _ _ rfl (by kernel_rfl)]
        simp [e_0, e_1]
      · refine (HCT.out wq (HE.out.trans c.inv)).mono ?_
        rintro r wp hA_
        obtain ⟨v_, rfl, hF_, hE_⟩ := hA_.fm (b0 := w0.heap.size) c.inv.size hg.old
        exact ⟨v_, rfl, hE_, c.inv.trans hE_, trivial, fun L' h1 h2 => GJ.other (fun v u u' hE h => h.ev hE) JFS hg hE_ (by decide) (JD 6 (by simp) 43 (by simp)) (Nat.lt_of_lt_of_eq (by decide : 43 < 105) hs.symm) (fun f hf he => by have hfin_ := hF_; simp only [List.mem_cons, List.not_mem_nil, or_false] at hf; rcases hf with rfl; exact ⟨rfl, hfin_⟩) h1 h2⟩
  · refine trn_cons 0 rfl ?_ (trn_nil 1)
    · refine opv_makes fun a wq c st hg => ?_
      obtain ⟨L_, hL_, hG_⟩ := hg rfl
      have hP_ := hG_.1 (hL_ 1 (by kernel_rfl))
      have hF_ := hG_.2 (6, 43, FM w0.heap.size (List.zipWith colTree m.co.l (m.ex.l.map M.t))) (by simp) (hL_ 6 (by kernel_rfl))
      rw [if_pos (hL_ 1 (by kernel_rfl))] at hF_
      obtain ⟨v_, w_, hr_, hP2_, hb_⟩ := run_append_trees (o := ⟨some 44, _, _, _, _, _⟩) rfl rfl rfl hP_ hF_ (by rw [List.length_zipWith, List.length_map]; simp; have := HEL.out; omega) c.inv.size
      exact ⟨wanted_plain rfl, v_, w_, hr_, trivial, But.to_ev c.inv hb_ fun y hy => (hP_.foot_lt y hy).1, trivial, hP2_⟩
  intro sl w1 hI hold hnew hst
  obtain ⟨A3, n3, cap3, L3, f3, hO3, hL3⟩ := (hnew 8 3 (by kernel_rfl) (by kernel_rfl) : P0T w0.heap.size ([bProject].map pAtom ++ (List.zipWith colTree m.co.l (m.ex.l.map M.t))) (sl 3) w1)
  have f0 : sl 0 = .agg #[.int .i64 3, .string ⟨m.name.toArray⟩, .slice eA m.ex.l.length ecap, .slice coA m.co.l.length cocap, .slice m.lf.A m.lf.l.length m.lf.cap, .slice m.rt.A m.rt.l.length m.rt.cap, .slice m.ag.A m.ag.l.length m.ag.cap, .slice mA m.kids.length mcap] := hold 0 (by kernel_rfl)
  have f1 : sl 1 = .pointer (some ⟨w.heap.size, 0, none⟩) := hold 1 (by kernel_rfl)
  have f2 : sl 2 = .pointer (some ⟨w.heap.size + 1, 0, none⟩) := hold 2 (by kernel_rfl)
  have f4 : sl 4 = undef := hold 4 (by kernel_rfl)
  have f5 : sl 5 = undef := hold 5 (by kernel_rfl)
  have f6 : sl 6 = undef := hold 6 (by kernel_rfl)
  have f7 : sl 7 = undef := hold 7 (by kernel_rfl)
  have f8 : sl 8 = undef := hold 8 (by kernel_rfl)
  have f9 : sl 9 = undef := hold 9 (by kernel_rfl)
  have f10 : sl 10 = .pointer (some ⟨w.heap.size, 0, none⟩) := hold 10 (by kernel_rfl)
  have f11 : sl 11 = .int .i64 3 := hold 11 (by kernel_rfl)
  have f12 : sl 12 = .bool false := hold 12 (by kernel_rfl)
  have f13 : sl 13 = .bool false := hold 13 (by kernel_rfl)
  have f14 : sl 14 = undef := hold 14 (by kernel_rfl)
  have f15 : sl 15 = undef := hold 15 (by kernel_rfl)
  have f16 : sl 16 = undef := hold 16 (by kernel_rfl)
  have f17 : sl 17 = undef := hold 17 (by kernel_rfl)
  have f18 : sl 18 = .bool false := hold 18 (by kernel_rfl)
  have f19 : sl 19 = .bool false := hold 19 (by kernel_rfl)
  have f20 : sl 20 = undef := hold 20 (by kernel_rfl)
  have f21 : sl 21 = undef := hold 21 (by kernel_rfl)
  have f22 : sl 22 = undef := hold 22 (by kernel_rfl)
  have f23 : sl 23 = undef := hold 23 (by kernel_rfl)
  have f24 : sl 24 = undef := hold 24 (by kernel_rfl)
  have f25 : sl 25 = undef := hold 25 (by kernel_rfl)
  have f26 : sl 26 = undef := hold 26 (by kernel_rfl)
  have f27 : sl 27 = undef := hold 27 (by kernel_rfl)
  have f28 : sl 28 = undef := hold 28 (by kernel_rfl)
  have f29 : sl 29 = undef := hold 29 (by kernel_rfl)
  have f30 : sl 30 = undef := hold 30 (by kernel_rfl)
  have f31 : sl 31 = undef := hold 31 (by kernel_rfl)
  have f32 : sl 32 = undef := hold 32 (by kernel_rfl)
  have f33 : sl 33 = undef := hold 33 (by kernel_rfl)
  have f34 : sl 34 = undef := hold 34 (by kernel_rfl)
  have f35 : sl 35 = .bool true := hold 35 (by kernel_rfl)
  have f36 : sl 36 = .bool true := hold 36 (by kernel_rfl)
  have f45 : sl 45 = undef := hold 45 (by kernel_rfl)
  have f46 : sl 46 = undef := hold 46 (by kernel_rfl)
  have f47 : sl 47 = undef := hold 47 (by kernel_rfl)
  have f48 : sl 48 = undef := hold 48 (by kernel_rfl)
  have f49 : sl 49 = undef := hold 49 (by kernel_rfl)
  have f50 : sl 50 = undef := hold 50 (by kernel_rfl)
  have f51 : sl 51 = undef := hold 51 (by kernel_rfl)
  have f52 : sl 52 = undef := hold 52 (by kernel_rfl)
  have f53 : sl 53 = undef := hold 53 (by kernel_rfl)
  have f54 : sl 54 = undef := hold 54 (by kernel_rfl)
  have f55 : sl 55 = undef := hold 55 (by kernel_rfl)
  have f56 : sl 56 = undef := hold 56 (by kernel_rfl)
  have f57 : sl 57 = undef := hold 57 (by kernel_rfl)
  have f58 : sl 58 = undef := hold 58 (by kernel_rfl)
  have f59 : sl 59 = undef := hold 59 (by kernel_rfl)
  have f60 : sl 60 = undef := hold 60 (by kernel_rfl)
  have f61 : sl 61 = undef := hold 61 (by kernel_rfl)
  have f62 : sl 62 = undef := hold 62 (by kernel_rfl)
  have f63 : sl 63 = undef := hold 63 (by kernel_rfl)
  have f64 : sl 64 = undef := hold 64 (by kernel_rfl)
  have f65 : sl 65 = undef := hold 65 (by kernel_rfl)
  have f66 : sl 66 = undef := hold 66 (by kernel_rfl)
  have f67 : sl 67 = undef := hold 67 (by kernel_rfl)
  have f68 : sl 68 = undef := hold 68 (by kernel_rfl)
  have f69 : sl 69 = undef := hold 69 (by kernel_rfl)
  have f70 : sl 70 = undef := hold 70 (by kernel_rfl)
  have f71 : sl 71 = undef := hold 71 (by kernel_rfl)
  have f72 : sl 72 = undef := hold 72 (by kernel_rfl)
  have f73 : sl 73 = undef := hold 73 (by kernel_rfl)
  have f74 : sl 74 = undef := hold 74 (by kernel_rfl)
  have f75 : sl 75 = undef := hold 75 (by kernel_rfl)
  have f76 : sl 76 = undef := hold 76 (by kernel_rfl)
  have f77 : sl 77 = undef := hold 77 (by kernel_rfl)
  have f78 : sl 78 = undef := hold 78 (by kernel_rfl)
  have f79 : sl 79 = undef := hold 79 (by kernel_rfl)
  have f80 : sl 80 = undef := hold 80 (by kernel_rfl)
  have f81 : sl 81 = undef := hold 81 (by kernel_rfl)
  have f82 : sl 82 = undef := hold 82 (by kernel_rfl)
  have f83 : sl 83 = undef := hold 83 (by kernel_rfl)
  have f84 : sl 84 = undef := hold 84 (by kernel_rfl)
  have f85 : sl 85 = undef := hold 85 (by kernel_rfl)
  have f86 : sl 86 = undef := hold 86 (by kernel_rfl)
  have f87 : sl 87 = undef := hold 87 (by kernel_rfl)
  have f88 : sl 88 = undef := hold 88 (by kernel_rfl)
  have f89 : sl 89 = undef := hold 89 (by kernel_rfl)
  have f90 : sl 90 = undef := hold 90 (by kernel_rfl)
  have f91 : sl 91 = undef := hold 91 (by kernel_rfl)
  have f92 : sl 92 = undef := hold 92 (by kernel_rfl)
  have f93 : sl 93 = undef := hold 93 (by kernel_rfl)
  have f94 : sl 94 = undef := hold 94 (by kernel_rfl)
  have f95 : sl 95 = undef := hold 95 (by kernel_rfl)
  have f96 : sl 96 = undef := hold 96 (by kernel_rfl)
  have f97 : sl 97 = undef := hold 97 (by kernel_rfl)
  have f98 : sl 98 = undef := hold 98 (by kernel_rfl)
  have f99 : sl 99 = undef := hold 99 (by kernel_rfl)
  have f100 : sl 100 = undef := hold 100 (by kernel_rfl)
  have f101 : sl 101 = undef := hold 101 (by kernel_rfl)
  have f102 : sl 102 = undef := hold 102 (by kernel_rfl)
  have f103 : sl 103 = undef := hold 103 (by kernel_rfl)
  have f104 : sl 104 = undef := hold 104 (by kernel_rfl)
  have f39 : sl 39 = .pointer (some ⟨w.heap.size, 3, none⟩) := hnew 2 39 (by kernel_rfl) (by kernel_rfl)
  have f40 : sl 40 = .slice coA m.co.l.length cocap := hnew 3 40 (by kernel_rfl) (by kernel_rfl)
  have f41 : sl 41 = .pointer (some ⟨w.heap.size, 2, none⟩) := hnew 4 41 (by kernel_rfl) (by kernel_rfl)
  have f42 : sl 42 = .slice eA m.ex.l.length ecap := hnew 5 42 (by kernel_rfl) (by kernel_rfl)
  change (_ : Act → World → Prop) ⟨#[sl 0, sl 1, sl 2, sl 3, sl 4, sl 5, sl 6, sl 7, sl 8, sl 9, sl 10, sl 11, sl 12, sl 13, sl 14, sl 15, sl 16, sl 17, sl 18, sl 19, sl 20, sl 21, sl 22, sl 23, sl 24, sl 25, sl 26, sl 27, sl 28, sl 29, sl 30, sl 31, sl 32, sl 33, sl 34, sl 35, sl 36, sl 37, sl 38, sl 39, sl 40, sl 41, sl 42, sl 43, sl 44, sl 45, sl 46, sl 47, sl 48, sl 49, sl 50, sl 51, sl 52, sl 53, sl 54, sl 55, sl 56, sl 57, sl 58, sl 59, sl 60, sl 61, sl 62, sl 63, sl 64, sl 65, sl 66, sl 67, sl 68, sl 69, sl 70, sl 71, sl 72, sl 73, sl 74, sl 75, sl 76, sl 77, sl 78, sl 79, sl 80, sl 81, sl 82, sl 83, sl 84, sl 85, sl 86, sl 87, sl 88, sl 89, sl 90, sl 91, sl 92, sl 93, sl 94, sl 95, sl 96, sl 97, sl 98, sl 99, sl 100, sl 101, sl 102, sl 103, sl 104], _⟩ _
  simp only [f3, f0, f1, f2, f4, f5, f6, f7, f8, f9, f10, f11, f12, f13, f14, f15, f16, f17, f18, f19, f20, f21, f22, f23, f24, f25, f26, f27, f28, f29, f30, f31, f32, f33, f34, f35, f36, f45, f46, f47, f48, f49, f50, f51, f52, f53, f54, f55, f56, f57, f58, f59, f60, f61, f62, f63, f64, f65, f66, f67, f68, f69, f70, f71, f72, f73, f74, f75, f76, f77, f78, f79, f80, f81, f82, f83, f84, f85, f86, f87, f88, f89, f90, f91, f92, f93, f94, f95, f96, f97, f98, f99, f100, f101, f102, f103, f104, f39, f40, f41, f42]
  clear hold hnew hst
  have HK := Lib.hid (⟨hO3.own, hO3.len, hO3.lies, hI⟩ : KdSt w0 A3 n3 cap3 L3 w1)
  have HLT := Lib.hid hL3
  clear hO3 hL3 hI JFS JNE JD
  clear p0 p1 p2 p3 p4 p5 p6 p7; obtain ⟨⟨p0, p1, p2, p3, p4, p5, p6, p7⟩, _⟩ := (HX.out.ev HK.out.ev).eight
  go_wp2
  have HLE : Hid (L3.length ≤ 30000) := Lib.hid (by have := congrArg List.length HLT.out; rw [List.length_append, List.length_map, List.length_map, List.length_zipWith, List.length_map] at this; simp at this; have := HEL.out; omega)
  have HLN := Lib.hid HK.out.len
  obtain ⟨hd, hhd⟩ : ∃ hd, hd = L3.map M.t := ⟨_, rfl⟩
  have HRD : Hid (R = pOpen (hd ++ m.kids.map fun x => pTree x.p)) := Lib.hid (by rw [HRT.out, hhd, HLT.out])
  have HHD := Lib.hid hhd
  clear hhd
  go_loopw [3, 93] (fun kv iv wr => ∃ (A1 : Option Addr) (n1 cap1 j : Nat) (L : List M), kv = .slice A1 n1 cap1 ∧ iv = .int .i64 (j : Int) ∧ j ≤ m.kids.length ∧ Hid (KdSt w0 A1 n1 cap1 L wr) ∧ Hid (L.map M.t = hd ++ (m.kids.take j).map fun x => pTree x.p)) (fun _ iv _ => m.kids.length - (intOf iv).toNat)
  case atStart => exact ⟨_, n3, cap3, 0, L3, rfl, rfl, Nat.zero_le _, HK, Lib.hid (by rw [HHD.out]; simp)⟩
  case round =>
    obtain ⟨A1, n1, cap1, j, L, rfl, rfl, hj, HS, HR⟩ := hrel
    have HEW := Lib.hid (HE.out.trans HS.out.ev)
    by_cases hlt : j < m.kids.length
    · obtain ⟨x, hx⟩ := HPS.out.at hlt
      obtain ⟨b, off, rfl, hb_, _⟩ := HPS.out.rd (by omega)
      obtain ⟨x0, x1, x2, x3, x4, x5, x6, x7⟩ := Ps.cell (HPS.out.ev HEW.out) hx
      unfold Sle.v PM.kv at *
      have hxm := List.mem_of_getElem? hx
      have HTK : Hid ((m.kids.take (j + 1)).map (fun x => pTree x.p) = (m.kids.take j).map (fun x => pTree x.p) ++ [pTree x.p]) := Lib.hid (by
        obtain ⟨hk2, e⟩ := List.getElem?_eq_some_iff.1 hx
        rw [List.take_succ_eq_append_getElem hk2, e, List.map_append]
        rfl)
      have HI := Lib.hid (fun w1 (hE : Ev w w1) => HIH.out x hxm w1 hE)
      have HLL := Lib.hid HS.out.len
      have HNL : Hid (L.length ≤ 50000) := Lib.hid (by
        have h5 := congrArg List.length HR.out
        rw [List.length_append, List.length_map, List.length_map, HHD.out, List.length_map, List.length_take] at h5
        have := HLE.out; have := HKN.out
        omega)
      have i1 : (0 : Int) ≤ (j : Int) := by omega
      have i2 : (j : Int) < (m.kids.length : Int) := by omega
      clear hx hxm
      go_wp2_with (first
        | ((with_reducible refine (HI.out _ (HEW.out.trans (Ev.alloc wr _))).mono ?_); rintro e w1 ⟨x', rfl, hxt, hxl, hE1⟩; have HXT := Lib.hid hxt; have HXL := Lib.hid hxl; have E1 := Lib.hid ((Ev.alloc wr _).trans hE1); clear hxt hxl)
        | ((show wpList _ _ _ (⟨some 101, _, _, _, _, _⟩ :: _) _ _); refine wpList_append_ow (o := ⟨some 101, _, _, _, _, _⟩) rfl 65 (.tmp 97) (.tmp 100) rfl encM Tryz.underlying65 Tryz.infoTree rfl rfl (HS.out.own.ev (E1.out.trans (Ev.alloc w1 _))) (some ⟨w1.heap.size, 0, none⟩) 1 1 [x'] rfl (Sl.one (et := 67) encM w1 x' _ rfl) (by have := HNL.out; simp; omega) (by have := HNL.out; simp; omega) ((HS.out.ev.trans E1.out).trans (Ev.alloc w1 _)).size ?_; intro v2 w2 hA2; obtain ⟨A2, cap2, rfl, ST2⟩ := HS.out.next (E1.out.trans (Ev.alloc w1 _)) ((HXL.out.low (Ev.alloc wr (.cells #[.int .i64 x.kind, .string ⟨x.name.toArray⟩, .slice x.ex.A x.ex.l.length x.ex.cap, .slice x.co.A x.co.l.length x.co.cap, .slice x.lf.A x.lf.l.length x.lf.cap, .slice x.rt.A x.rt.l.length x.rt.cap, .slice x.ag.A x.ag.l.length x.ag.cap, .slice x.A x.kids.length x.cap] 27)).size).ev (Ev.alloc w1 _)) hA2))
      go_roundw
      case rel => exact ⟨A2, n1 + 1, cap2, j + 1, L ++ [x'], rfl, by go_num, by omega, Lib.hid ST2, Lib.hid (by rw [HTK.out, List.map_append, HR.out, List.map_cons, List.map_nil, HXT.out, List.append_assoc])⟩
      case measure => simp [intOf]; omega
    · obtain rfl : j = m.kids.length := by omega
      obtain ⟨hlx, hnl⟩ := HS.out.done
      have HNL := Lib.hid hnl
      have hbl := HB.out.lt
      have HLX2 := Lib.hid (hlx.less (K' := [w.heap.size + 1]) fun k hk => by simp at hk; subst hk; exact .inr (.inl hbl))
      have HTT : Hid (M.t (.mk 1 [] 0 A1 cap1 L 0) = R) := Lib.hid (by
        have h5 := HR.out
        rw [List.take_length] at h5
        simp only [M.t, M.ts_map]
        rw [h5, HRD.out]
        rfl)
      have HOP := Lib.hid (pl_open A1 n1 cap1 wr)
      have HSZ := Lib.hid HE.out.size
      have HBL := Lib.hid hbl
      clear hlx hnl hbl
      go_wp2_with (first
        | ((with_reducible refine HOP.out.mono ?_); rintro e w2 ⟨rfl, hE2⟩; have HE2 := Lib.hid hE2; have HBR := Lib.hid (HB.out.ev (HS.out.ev.trans hE2)); obtain ⟨⟨d0, d1, d2, d3, d4⟩, r0, r1, r2, r3, r4⟩ := HBR.out.five; clear hE2))
      (try simp only [Exit.inBlock, Exit.then])
      rw [set5_fold]
      refine bodyPost_ret (results_cell1 rfl _ _ _ _ _ rfl (HBR.out.set5 _ _ _ _ _) Tryz.underlying67 rfl Tryz.sizeTree) rfl ?_
      refine ⟨.mk 1 [] 0 A1 cap1 L 0, by simp only [M.kids, M.kind, M.s, M.n, M.A, M.cap, M.pos]; rw [← HNL.out]; rfl, HTT.out, ?_, (HEW.out.trans HE2.out).box (set5_but _ _ _ _ _ _ _) (by omega)⟩
      exact (((HLX2.out.ev HE2.out)).move (set5_but _ _ _ _ _ _ _) fun k hk => by cases hk).low HSZ.out
end Go.Proofs.YtojbahjebfcmgaaGreatDoor

namespace Go.Proofs.YtojbahjebfcmgaaGreatDoor
open Go.RowKit
set_option linter.unusedVariables false

set_option maxRecDepth 100000 in
set_option maxHeartbeats 16000000 in
theorem pl_treeJoin (m : PM) (b0 : Nat) (w : World) (h : Qx b0 [] w m) (hk : m.kind = 4) (hll : m.lf.l.length ≤ 10000) (hrl : m.rt.l.length ≤ 10000) (hkn : m.kids.length ≤ 10000) (ih : ∀ x ∈ m.kids, ∀ w1, Ev w w1 → Calls Tryz.prog 60 #[pv x] w1 (TrOut (pTree x.p) w1)) :
    Calls Tryz.prog 60 #[pv m] w (TrOut (pTree m.p) w) := by
  have hmix : Tryz.prog.follows .mixedOrders = true := by kernel_rfl
  have HT0 := pTree_m m
  rw [hk] at HT0
  obtain ⟨R, hR⟩ : ∃ R, R = pTree m.p := ⟨_, rfl⟩
  rw [← hR] at HT0 ⊢
  have HRT : Hid (R = pOpen (([bJoin].map pAtom ++ [pNames m.lf.l, pNames m.rt.l]) ++ m.kids.map fun x => pTree x.p)) := Lib.hid HT0
  obtain ⟨hex, hlx, hco, hlf, hrt, hag, hks, hkq⟩ := h.at
  have hps := h.ps
  have hkc := h.ps.le
  have hkm := h.ps.max
  have HIH := Lib.hid ih
  unfold pv Sle.v PM.kv TrOut
  unfold pv Sle.v PM.kv TrOut at HIH
  rw [hk]
  clear hks hkq h
  generalize m.A = mA at *
  generalize m.cap = mcap at *
  have HPS := Lib.hid hps
  obtain ⟨w0, hw0, hE0, hX, hB⟩ := bx_plr w (.int .i64 4) (.string ⟨m.name.toArray⟩) (.slice m.ex.A m.ex.l.length m.ex.cap) (.slice m.co.A m.co.l.length m.co.cap) (.slice m.lf.A m.lf.l.length m.lf.cap) (.slice m.rt.A m.rt.l.length m.rt.cap) (.slice m.ag.A m.ag.l.length m.ag.cap) (.slice mA m.kids.length mcap)
  obtain ⟨⟨p0, p1, p2, p3, p4, p5, p6, p7⟩, _⟩ := hX.eight
  have HX := Lib.hid hX
  have HB := Lib.hid hB
  have HE := Lib.hid hE0
  have HEX := Lib.hid hex
  have HLX := Lib.hid hlx
  have HCO := Lib.hid hco
  have HLF := Lib.hid hlf
  have HRI := Lib.hid hrt
  have HAG := Lib.hid hag
  have HKN := Lib.hid hkn
  clear HT0 hX hB hE0 hex hlx hco hlf hrt hag ih hR hk hps
  have HLS := Lib.hid HLF.out.sl
  have HLLE := Lib.hid hll
  generalize m.lf.A = lA at *
  generalize m.lf.cap = lcap at *
  have HRS := Lib.hid HRI.out.sl
  have HRLE := Lib.hid hrl
  generalize m.rt.A = rA at *
  generalize m.rt.cap = rcap at *
  clear hll hrl
  go_enter Tryz.func60, Tryz.ntmps60
  go_upto_region 15 with fail
  have JFS : ∀ f ∈ ([(4, 51, FO w0.heap.size (m.lf.l.map pAtom)), (5, 52, FT w0.heap.size (pNames m.lf.l)), (8, 55, FO w0.heap.size (m.rt.l.map pAtom)), (9, 56, FT w0.heap.size (pNames m.rt.l)), (10, 57, FM w0.heap.size [pNames m.lf.l, pNames m.rt.l])] : List (Nat × Nat × (List Nat → Value → World → Prop))), JF f.2.2 := fun f hf => by
    simp only [List.mem_cons, List.not_mem_nil, or_false] at hf
    rcases hf with rfl | rfl | rfl | rfl | rfl <;> first | exact FT.jf _ _ | exact FM.jf _ _ | exact FO.jf _ _
  have JNE : ∀ f ∈ ([(4, 51, FO w0.heap.size (m.lf.l.map pAtom)), (5, 52, FT w0.heap.size (pNames m.lf.l)), (8, 55, FO w0.heap.size (m.rt.l.map pAtom)), (9, 56, FT w0.heap.size (pNames m.rt.l)), (10, 57, FM w0.heap.size [pNames m.lf.l, pNames m.rt.l])] : List (Nat × Nat × (List Nat → Value → World → Prop))), f.1 ≠ 1 ∧ f.2.1 ≠ 48 := fun f hf => by
    simp only [List.mem_cons, List.not_mem_nil, or_false] at hf
    rcases hf with rfl | rfl | rfl | rfl | rfl <;> simp
  have JD : ∀ i ∈ ([4, 5, 8, 9, 10] : List Nat), ∀ dd, (i, dd) ∈ ([(4, 51), (5, 52), (8, 55), (9, 56), (10, 57)] : List (Nat × Nat)) → ∀ f ∈ ([(4, 51, FO w0.heap.size (m.lf.l.map pAtom)), (5, 52, FT w0.heap.size (pNames m.lf.l)), (8, 55, FO w0.heap.size (m.rt.l.map pAtom)), (9, 56, FT w0.heap.size (pNames m.rt.l)), (10, 57, FM w0.heap.size [pNames m.lf.l, pNames m.rt.l])] : List (Nat × Nat × (List Nat → Value → World → Prop))), f.1 ≠ i → f.2.1 ≠ dd := fun i hi dd hd f hf hne => by
    simp only [List.mem_cons, List.not_mem_nil, or_false, Prod.mk.injEq] at hf hd
    rcases hf with rfl | rfl | rfl | rfl | rfl <;> (simp only at hne ⊢; omega)
  refine wp_region_slotsG hmix (fun u => Ev w0 u) (fun p _ _ => match p with | 0 => True | _ + 1 => False) [11] (fun _ _ => True) [0] [[11, 12]] 11 [FSs bJoin, fun _ _ => True, fun v _ => v = .pointer (some ⟨w.heap.size, 4, none⟩), fun v _ => v = .slice lA m.lf.l.length lcap, fun _ _ => True, fun _ _ => True, fun v _ => v = .pointer (some ⟨w.heap.size, 5, none⟩), fun v _ => v = .slice rA m.rt.l.length rcap, fun _ _ => True, fun _ _ => True, fun _ _ => True, P0T w0.heap.size ([bJoin].map pAtom ++ [pNames m.lf.l, pNames m.rt.l]), P0T w0.heap.size ([bJoin].map pAtom ++ [pNames m.lf.l, pNames m.rt.l])]
    105 1 rfl (by kernel_rfl) ⟨FSs.mono _, mono_true, mono_eq _, mono_eq _, mono_true, mono_true, mono_eq _, mono_eq _, mono_true, mono_true, mono_true, P0T.mono _ _, P0T.mono _ _, trivial⟩ ⟨Or.inl rfl, Or.inr fun p => Or.inr fun _ _ _ _ h => h, Or.inr fun p => Or.inr fun _ _ _ _ h => h, Or.inr fun p => Or.inr fun _ _ _ _ h => h, Or.inr fun p => Or.inr fun _ _ _ _ h => h, Or.inr fun p => Or.inr fun _ _ _ _ h => h, Or.inr fun p => Or.inr fun _ _ _ _ h => h, Or.inr fun p => Or.inr fun _ _ _ _ h => h, Or.inr fun p => Or.inr fun _ _ _ _ h => h, Or.inr fun p => Or.inr fun _ _ _ _ h => h, Or.inr fun p => Or.inr fun _ _ _ _ h => h, Or.inr fun p => match p with | 0 => Or.inl rfl | _ + 1 => Or.inr fun _ _ _ hb h => hb.elim, Or.inr fun p => match p with | 0 => Or.inl rfl | _ + 1 => Or.inr fun _ _ _ hb h => hb.elim, trivial⟩ (by kernel_rfl) rfl (by kernel_rfl) (fun _ _ _ _ _ => trivial) (fun u u' hE h => h.trans hE) (Ev.refl _) (trivial) (by kernel_rfl) (GJ 1 48 (P0T w0.heap.size ([bJoin].map pAtom)) [(4, 51, FO w0.heap.size (m.lf.l.map pAtom)), (5, 52, FT w0.heap.size (pNames m.lf.l)), (8, 55, FO w0.heap.size (m.rt.l.map pAtom)), (9, 56, FT w0.heap.size (pNames m.rt.l)), (10, 57, FM w0.heap.size [pNames m.lf.l, pNames m.rt.l])]) [1, 4, 5, 8, 9, 10] (by kernel_rfl) (fun L L' a a' u u' hL ha hE h => GJ.keep (fun v u u' hE h => h.ev hE) JFS (hL 1 (by decide)) (fun f hf => by simp only [List.mem_cons, List.not_mem_nil, or_false] at hf; rcases hf with rfl | rfl | rfl | rfl | rfl <;> exact hL _ (by simp)) (ha 1 (by decide) _ (by kernel_rfl)) (fun f hf => by simp only [List.mem_cons, List.not_mem_nil, or_false] at hf; rcases hf with rfl | rfl | rfl | rfl | rfl; exact ha 4 (by simp) 51 (by kernel_rfl); exact ha 5 (by simp) 52 (by kernel_rfl); exact ha 8 (by simp) 55 (by kernel_rfl); exact ha 9 (by simp) 56 (by kernel_rfl); exact ha 10 (by simp) 57 (by kernel_rfl)) hE h) (fun L hL => GJ.none hL) ?_ ?_ ?_ ?_
  · refine opc_cons 0 ?_ (opc_turn 1 (by decide) (opc_cons 2 ?_ (opc_cons 3 ?_ (opc_turn 4 (by decide) (opc_turn 5 (by decide) (opc_cons 6 ?_ (opc_cons 7 ?_ (opc_turn 8 (by decide) (opc_turn 9 (by decide) (opc_turn 10 (by decide) (opc_turn 11 (by decide) (opc_cons 12 ?_ (opc_nil 13)))))))))))))
    · refine opg_makes fun a wq c => ⟨(wanted_plain rfl), _, _, run_build_text bJoin rfl (evc a _) wq, Ev.alloc _ _, c.inv.trans (Ev.alloc wq _), ⟨_, rfl, Ss.made wq [bJoin] _ rfl (by simp)⟩⟩
    · refine opg_value fun a wq c => ⟨(wanted_plain rfl), .pointer (some ⟨w.heap.size, 4, none⟩), ?_, rfl⟩
      have e_0 : a.eval (.tmp 1) = .pointer (some ⟨w.heap.size, 0, none⟩) := (c.was 1 (by kernel_rfl) rfl)
      generalize a.eval = ρ at e_0 ⊢
      simp [execOp, e_0, go_sem]
    · refine opg_value fun a wq c => ⟨(wanted_plain rfl), .slice lA m.lf.l.length lcap, ?_, rfl⟩
      have e_0 : a.eval (.tmp 49) = .pointer (some ⟨w.heap.size, 4, none⟩) := (c.new 2 49 (by kernel_rfl) (by kernel_rfl) (by kernel_rfl))
      have q0 := (c.inv.cell (p := ⟨w.heap.size, 4, none⟩) HX.out.lt).trans p4
      generalize a.eval = ρ at e_0 ⊢
      simp [execOp, e_0, q0, go_sem]
    · refine opg_value fun a wq c => ⟨(wanted_plain rfl), .pointer (some ⟨w.heap.size, 5, none⟩), ?_, rfl⟩
      have e_0 : a.eval (.tmp 1) = .pointer (some ⟨w.heap.size, 0, none⟩) := (c.was 1 (by kernel_rfl) rfl)
      generalize a.eval = ρ at e_0 ⊢
      simp [execOp, e_0, go_sem]
    · refine opg_value fun a wq c => ⟨(wanted_plain rfl), .slice rA m.rt.l.length rcap, ?_, rfl⟩
      have e_0 : a.eval (.tmp 53) = .pointer (some ⟨w.heap.size, 5, none⟩) := (c.new 6 53 (by kernel_rfl) (by kernel_rfl) (by kernel_rfl))
      have q0 := (c.inv.cell (p := ⟨w.heap.size, 5, none⟩) HX.out.lt).trans p5
      generalize a.eval = ρ at e_0 ⊢
      simp [execOp, e_0, q0, go_sem]
    · refine opg_value fun a w c => ⟨(wanted_plain rfl), _, run_assign _ rfl w, (c.new 11 58 (by kernel_rfl) (by kernel_rfl) (by kernel_rfl))⟩
  · refine sps_cons rfl ?_ (sps_cons rfl ?_ (sps_cons rfl ?_ (sps_cons rfl ?_ (sps_cons rfl ?_ (sps_cons rfl ?_ sps_nil)))))
    · refine ops_call fun a wq L c hs hp hu hg => ?_
      obtain ⟨g_, e_, hS_⟩ := (c.got 0 47 (by kernel_rfl) (by kernel_rfl) (by kernel_rfl) rfl : FSs bJoin _ _)
      refine ⟨wanted_plain rfl, 109, #[.slice (some ⟨g_, 0, none⟩) 1 1], ?_, ?_⟩
      · rw [run_call 109 _ _ rfl (by kernel_rfl)]
        simp [e_]
      · refine (pl_atoms [bJoin] _ 1 1 wq hS_ (by omega)).mono ?_
        rintro r wp hA_
        obtain ⟨v_, rfl, hP_, hn_, hE_⟩ := hA_.p0 (b0 := w0.heap.size) c.inv.size
        exact ⟨v_, rfl, hE_, c.inv.trans hE_, trivial, fun L' h1 h2 => GJ.first JFS hg hu hE_ JNE (Nat.lt_of_lt_of_eq (by decide : 48 < 105) hs.symm) hP_ hn_ h1 h2⟩
    · refine ops_call fun a wq L c hs hp hu hg => ?_
      have e_ : a.eval (.tmp 50) = .slice lA m.lf.l.length lcap := (c.new 3 50 (by kernel_rfl) (by kernel_rfl) (by kernel_rfl))
      refine ⟨wanted_plain rfl, 109, #[.slice lA m.lf.l.length lcap], ?_, ?_⟩
      · rw [run_call 109 _ _ rfl (by kernel_rfl)]
        simp [e_]
      · refine (pl_atoms m.lf.l _ _ _ wq (HLS.out.ev (HE.out.trans c.inv)) (by have := HLLE.out; omega)).mono ?_
        rintro r wp hA_
        obtain ⟨v_, rfl, hF_, hE_⟩ := hA_.fo (b0 := w0.heap.size) c.inv.size hg.old
        exact ⟨v_, rfl, hE_, c.inv.trans hE_, trivial, fun L' h1 h2 => GJ.other (fun v u u' hE h => h.ev hE) JFS hg hE_ (by decide) (JD 4 (by simp) 51 (by simp)) (Nat.lt_of_lt_of_eq (by decide : 51 < 105) hs.symm) (fun f hf he => by have hfin_ := hF_; simp only [List.mem_cons, List.not_mem_nil, or_false] at hf; rcases hf with rfl | rfl | rfl | rfl | rfl; exact ⟨rfl, hfin_⟩; exact absurd he (by simp); exact absurd he (by simp); exact absurd he (by simp); exact absurd he (by simp)) h1 h2⟩
    · refine ops_call fun a wq L c hs hp hu hg => ?_
      obtain ⟨A_, n_, cap_, Z_, e_, hn_, hz_, hl_⟩ := hg.2 (4, 51, FO w0.heap.size (m.lf.l.map pAtom)) (by simp) (hp 4 (by kernel_rfl))
      refine ⟨wanted_plain rfl, 112, #[.slice A_ n_ cap_], ?_, ?_⟩
      · rw [run_call 112 _ _ rfl (by kernel_rfl)]
        simp [e_]
      · refine (pl_open A_ n_ cap_ wq).mono ?_
        rintro r wp ⟨rfl, hE_⟩
        exact ⟨_, rfl, hE_, c.inv.trans hE_, trivial, fun L' h1 h2 => GJ.other (fun v u u' hE h => h.ev hE) JFS hg hE_ (by decide) (JD 5 (by simp) 52 (by simp)) (Nat.lt_of_lt_of_eq (by decide : 52 < 105) hs.symm) (fun f hf he => by have hfin_ := (⟨.mk 1 [] 0 A_ cap_ Z_ 0, by rw [hn_]; rfl, by simp only [M.t, M.ts_map]; rw [hz_]; rfl, hl_.ev hE_⟩ : FT w0.heap.size (pNames m.lf.l) (if L 1 = true then foot (a.eval (.tmp 48)) else []) (.agg #[.int .i64 1, .string ⟨#[]⟩, .int .i64 0, .slice A_ n_ cap_, .int .i64 0]) wp); simp only [List.mem_cons, List.not_mem_nil, or_false] at hf; rcases hf with rfl | rfl | rfl | rfl | rfl; exact absurd he (by simp); exact ⟨rfl, hfin_⟩; exact absurd he (by simp); exact absurd he (by simp); exact absurd he (by simp)) h1 h2⟩
    · refine ops_call fun a wq L c hs hp hu hg => ?_
      have e_ : a.eval (.tmp 54) = .slice rA m.rt.l.length rcap := (c.new 7 54 (by kernel_rfl) (by kernel_rfl) (by kernel_rfl))
      refine ⟨wanted_plain rfl, 109, #[.slice rA m.rt.l.length rcap], ?_, ?_⟩
      · rw [run_call 109 _ _ rfl (by kernel_rfl)]
        simp [e_]
      · refine (pl_atoms m.rt.l _ _ _ wq (HRS.out.ev (HE.out.trans c.inv)) (by have := HRLE.out; omega)).mono ?_
        rintro r wp hA_
        obtain ⟨v_, rfl, hF_, hE_⟩ := hA_.fo (b0 := w0.heap.size) c.inv.size hg.old
        exact ⟨v_, rfl, hE_, c.inv.trans hE_, trivial, fun L' h1 h2 => GJ.other (fun v u u' hE h => h.ev hE) JFS hg hE_ (by decide) (JD 8 (by simp) 55 (by simp)) (Nat.lt_of_lt_of_eq (by decide : 55 < 105) hs.symm) (fun f hf he => by have hfin_ := hF_; simp only [List.mem_cons, List.not_mem_nil, or_false] at hf; rcases hf with rfl | rfl | rfl | rfl | rfl; exact absurd he (by simp); exact absurd he (by simp); exact ⟨rfl, hfin_⟩; exact absurd he (by simp); exact absurd he (by simp)) h1 h2⟩
    · refine ops_call fun a wq L c hs hp hu hg => ?_
      obtain ⟨A_, n_, cap_, Z_, e_, hn_, hz_, hl_⟩ := hg.2 (8, 55, FO w0.heap.size (m.rt.l.map pAtom)) (by simp) (hp 8 (by kernel_rfl))
      refine ⟨wanted_plain rfl, 112, #[.slice A_ n_ cap_], ?_, ?_⟩
      · rw [run_call 112 _ _ rfl (by kernel_rfl)]
        simp [e_]
      · refine (pl_open A_ n_ cap_ wq).mono ?_
        rintro r wp ⟨rfl, hE_⟩
        exact ⟨_, rfl, hE_, c.inv.trans hE_, trivial, fun L' h1 h2 => GJ.other (fun v u u' hE h => h.ev hE) JFS hg hE_ (by decide) (JD 9 (by simp) 56 (by simp)) (Nat.lt_of_lt_of_eq (by decide : 56 < 105) hs.symm) (fun f hf he => by have hfin_ := (⟨.mk 1 [] 0 A_ cap_ Z_ 0, by rw [hn_]; rfl, by simp only [M.t, M.ts_map]; rw [hz_]; rfl, hl_.ev hE_⟩ : FT w0.heap.size (pNames m.rt.l) (if L 1 = true then foot (a.eval (.tmp 48)) else []) (.agg #[.int .i64 1, .string ⟨#[]⟩, .int .i64 0, .slice A_ n_ cap_, .int .i64 0]) wp); simp only [List.mem_cons, List.not_mem_nil, or_false] at hf; rcases hf with rfl | rfl | rfl | rfl | rfl; exact absurd he (by simp); exact absurd he (by simp); exact absurd he (by simp); exact ⟨rfl, hfin_⟩; exact absurd he (by simp)) h1 h2⟩
    · refine ops_makes fun a wq L c hs hp hu hg => ?_
      obtain ⟨m0_, e0_, ht0_, hl0_⟩ := hg.2 (5, 52, FT w0.heap.size (pNames m.lf.l)) (by simp) (hp 5 (by kernel_rfl))
      obtain ⟨m1_, e1_, ht1_, hl1_⟩ := hg.2 (9, 56, FT w0.heap.size (pNames m.rt.l)) (by simp) (hp 9 (by kernel_rfl))
      exact ⟨wanted_plain rfl, _, _, run_build_tree2 m0_ m1_ rfl e0_ e1_ wq, Ev.alloc _ _, c.inv.trans (Ev.alloc wq _), trivial, fun L' h1 h2 => GJ.other (fun v u u' hE h => h.ev hE) JFS hg (Ev.alloc _ _) (by decide) (JD 10 (by simp) 57 (by simp)) (Nat.lt_of_lt_of_eq (by decide : 57 < 105) hs.symm) (fun f hf he => by have hfin_ := (FT.slice2 m0_ m1_ ht0_ ht1_ hl0_ hl1_); simp only [List.mem_cons, List.not_mem_nil, or_false] at hf; rcases hf with rfl | rfl | rfl | rfl | rfl; exact absurd he (by simp); exact absurd he (by simp); exact absurd he (by simp); exact absurd he (by simp); exact ⟨rfl, hfin_⟩) h1 h2⟩
  · refine trn_cons 0 rfl ?_ (trn_nil 1)
    · refine opv_makes fun a wq c st hg => ?_
      obtain ⟨L_, hL_, hG_⟩ := hg rfl
      have hP_ := hG_.1 (hL_ 1 (by kernel_rfl))
      have hF_ := hG_.2 (10, 57, FM w0.heap.size [pNames m.lf.l, pNames m.rt.l]) (by simp) (hL_ 10 (by kernel_rfl))
      rw [if_pos (hL_ 1 (by kernel_rfl))] at hF_
      obtain ⟨v_, w_, hr_, hP2_, hb_⟩ := run_append_trees (o := ⟨some 58, _, _, _, _, _⟩) rfl rfl rfl hP_ hF_ (by simp) c.inv.size
      exact ⟨wanted_plain rfl, v_, w_, hr_, trivial, But.to_ev c.inv hb_ fun y hy => (hP_.foot_lt y hy).1, trivial, hP2_⟩
  intro sl w1 hI hold hnew hst
  obtain ⟨A3, n3, cap3, L3, f3, hO3, hL3⟩ := (hnew 12 3 (by kernel_rfl) (by kernel_rfl) : P0T w0.heap.size ([bJoin].map pAtom ++ [pNames m.lf.l, pNames m.rt.l]) (sl 3) w1)
  have f0 : sl 0 = .agg #[.int .i64 4, .string ⟨m.name.toArray⟩, .slice m.ex.A m.ex.l.length m.ex.cap, .slice m.co.A m.co.l.length m.co.cap, .slice lA m.lf.l.length lcap, .slice rA m.rt.l.length rcap, .slice m.ag.A m.ag.l.length m.ag.cap, .slice mA m.kids.length mcap] := hold 0 (by kernel_rfl)
  have f1 : sl 1 = .pointer (some ⟨w.heap.size, 0, none⟩) := hold 1 (by kernel_rfl)
  have f2 : sl 2 = .pointer (some ⟨w.heap.size + 1, 0, none⟩) := hold 2 (by kernel_rfl)
  have f4 : sl 4 = undef := hold 4 (by kernel_rfl)
  have f5 : sl 5 = undef := hold 5 (by kernel_rfl)
  have f6 : sl 6 = undef := hold 6 (by kernel_rfl)
  have f7 : sl 7 = undef := hold 7 (by kernel_rfl)
  have f8 : sl 8 = undef := hold 8 (by kernel_rfl)
  have f9 : sl 9 = undef := hold 9 (by kernel_rfl)
  have f10 : sl 10 = .pointer (some ⟨w.heap.size, 0, none⟩) := hold 10 (by kernel_rfl)
  have f11 : sl 11 = .int .i64 4 := hold 11 (by kernel_rfl)
  have f12 : sl 12 = .bool false := hold 12 (by kernel_rfl)
  have f13 : sl 13 = .bool false := hold 13 (by kernel_rfl)
  have f14 : sl 14 = undef := hold 14 (by kernel_rfl)
  have f15 : sl 15 = undef := hold 15 (by kernel_rfl)
  have f16 : sl 16 = undef := hold 16 (by kernel_rfl)
  have f17 : sl 17 = undef := hold 17 (by kernel_rfl)
  have f18 : sl 18 = .bool false := hold 18 (by kernel_rfl)
  have f19 : sl 19 = .bool false := hold 19 (by kernel_rfl)
  have f20 : sl 20 = undef := hold 20 (by kernel_rfl)
  have f21 : sl 21 = undef := hold 21 (by kernel_rfl)
  have f22 : sl 22 = undef := hold 22 (by kernel_rfl)
  have f23 : sl 23 = undef := hold 23 (by kernel_rfl)
  have f24 : sl 24 = undef := hold 24 (by kernel_rfl)
  have f25 : sl 25 = undef := hold 25 (by kernel_rfl)
  have f26 : sl 26 = undef := hold 26 (by kernel_rfl)
  have f27 : sl 27 = undef := hold 27 (by kernel_rfl)
  have f28 : sl 28 = undef := hold 28 (by kernel_rfl)
  have f29 : sl 29 = undef := hold 29 (by kernel_rfl)
  have f30 : sl 30 = undef := hold 30 (by kernel_rfl)
  have f31 : sl 31 = undef := hold 31 (by kernel_rfl)
  have f32 : sl 32 = undef := hold 32 (by kernel_rfl)
  have f33 : sl 33 = undef := hold 33 (by kernel_rfl)
  have f34 : sl 34 = undef := hold 34 (by kernel_rfl)
  have f35 : sl 35 = .bool false := hold 35 (by kernel_rfl)
  have f36 : sl 36 = .bool false := hold 36 (by kernel_rfl)
  have f37 : sl 37 = undef := hold 37 (by kernel_rfl)
  have f38 : sl 38 = undef := hold 38 (by kernel_rfl)
  have f39 : sl 39 = undef := hold 39 (by kernel_rfl)
  have f40 : sl 40 = undef := hold 40 (by kernel_rfl)
  have f41 : sl 41 = undef := hold 41 (by kernel_rfl)
  have f42 : sl 42 = undef := hold 42 (by kernel_rfl)
  have f43 : sl 43 = undef := hold 43 (by kernel_rfl)
  have f44 : sl 44 = undef := hold 44 (by kernel_rfl)
  have f45 : sl 45 = .bool true := hold 45 (by kernel_rfl)
  have f46 : sl 46 = .bool true := hold 46 (by kernel_rfl)
  have f59 : sl 59 = undef := hold 59 (by kernel_rfl)
  have f60 : sl 60 = undef := hold 60 (by kernel_rfl)
  have f61 : sl 61 = undef := hold 61 (by kernel_rfl)
  have f62 : sl 62 = undef := hold 62 (by kernel_rfl)
  have f63 : sl 63 = undef := hold 63 (by kernel_rfl)
  have f64 : sl 64 = undef := hold 64 (by kernel_rfl)
  have f65 : sl 65 = undef := hold 65 (by kernel_rfl)
  have f66 : sl 66 = undef := hold 66 (by kernel_rfl)
  have f67 : sl 67 = undef := hold 67 (by kernel_rfl)
  have f68 : sl 68 = undef := hold 68 (by kernel_rfl)
  have f69 : sl 69 = undef := hold 69 (by kernel_rfl)
  have f70 : sl 70 = undef := hold 70 (by kernel_rfl)
  have f71 : sl 71 = undef := hold 71 (by kernel_rfl)
  have f72 : sl 72 = undef := hold 72 (by kernel_rfl)
  have f73 : sl 73 = undef := hold 73 (by kernel_rfl)
  have f74 : sl 74 = undef := hold 74 (by kernel_rfl)
  have f75 : sl 75 = undef := hold 75 (by kernel_rfl)
  have f76 : sl 76 = undef := hold 76 (by kernel_rfl)
  have f77 : sl 77 = undef := hold 77 (by kernel_rfl)
  have f78 : sl 78 = undef := hold 78 (by kernel_rfl)
  have f79 : sl 79 = undef := hold 79 (by kernel_rfl)
  have f80 : sl 80 = undef := hold 80 (by kernel_rfl)
  have f81 : sl 81 = undef := hold 81 (by kernel_rfl)
  have f82 : sl 82 = undef := hold 82 (by kernel_rfl)
  have f83 : sl 83 = undef := hold 83 (by kernel_rfl)
  have f84 : sl 84 = undef := hold 84 (by kernel_rfl)
  have f85 : sl 85 = undef := hold 85 (by kernel_rfl)
  have f86 : sl 86 = undef := hold 86 (by kernel_rfl)
  have f87 : sl 87 = undef := hold 87 (by kernel_rfl)
  have f88 : sl 88 = undef := hold 88 (by kernel_rfl)
  have f89 : sl 89 = undef := hold 89 (by kernel_rfl)
  have f90 : sl 90 = undef := hold 90 (by kernel_rfl)
  have f91 : sl 91 = undef := hold 91 (by kernel_rfl)
  have f92 : sl 92 = undef := hold 92 (by kernel_rfl)
  have f93 : sl 93 = undef := hold 93 (by kernel_rfl)
  have f94 : sl 94 = undef := hold 94 (by kernel_rfl)
  have f95 : sl 95 = undef := hold 95 (by kernel_rfl)
  have f96 : sl 96 = undef := hold 96 (by kernel_rfl)
  have f97 : sl 97 = undef := hold 97 (by kernel_rfl)
  have f98 : sl 98 = undef := hold 98 (by kernel_rfl)
  have f99 : sl 99 = undef := hold 99 (by kernel_rfl)
  have f100 : sl 100 = undef := hold 100 (by kernel_rfl)
  have f101 : sl 101 = undef := hold 101 (by kernel_rfl)
  have f102 : sl 102 = undef := hold 102 (by kernel_rfl)
  have f103 : sl 103 = undef := hold 103 (by kernel_rfl)
  have f104 : sl 104 = undef := hold 104 (by kernel_rfl)
  have f49 : sl 49 = .pointer (some ⟨w.heap.size, 4, none⟩) := hnew 2 49 (by kernel_rfl) (by kernel_rfl)
  have f50 : sl 50 = .slice lA m.lf.l.length lcap := hnew 3 50 (by kernel_rfl) (by kernel_rfl)
  have f53 : sl 53 = .pointer (some ⟨w.heap.size, 5, none⟩) := hnew 6 53 (by kernel_rfl) (by kernel_rfl)
  have f54 : sl 54 = .slice rA m.rt.l.length rcap := hnew 7 54 (by kernel_rfl) (by kernel_rfl)
  change (_ : Act → World → Prop) ⟨#[sl 0, sl 1, sl 2, sl 3, sl 4, sl 5, sl 6, sl 7, sl 8, sl 9, sl 10, sl 11, sl 12, sl 13, sl 14, sl 15, sl 16, sl 17, sl 18, sl 19, sl 20, sl 21, sl 22, sl 23, sl 24, sl 25, sl 26, sl 27, sl 28, sl 29, sl 30, sl 31, sl 32, sl 33, sl 34, sl 35, sl 36, sl 37, sl 38, sl 39, sl 40, sl 41, sl 42, sl 43, sl 44, sl 45, sl 46, sl 47, sl 48, sl 49, sl 50, sl 51, sl 52, sl 53, sl 54, sl 55, sl 56, sl 57, sl 58, sl 59, sl 60, sl 61, sl 62, sl 63, sl 64, sl 65, sl 66, sl 67, sl 68, sl 69, sl 70, sl 71, sl 72, sl 73, sl 74, sl 75, sl 76, sl 77, sl 78, sl 79, sl 80, sl 81, sl 82, sl 83, sl 84, sl 85, sl 86, sl 87, sl 88, sl 89, sl 90, sl 91, sl 92, sl 93, sl 94, sl 95, sl 96, sl 97, sl 98, sl 99, sl 100, sl 101, sl 102, sl 103, sl 104], _⟩ _
  simp only [f3, f0, f1, f2, f4, f5, f6, f7, f8, f9, f10, f11, f12, f13, f14, f15, f16, f17, f18, f19, f20, f21, f22, f23, f24, f25, f26, f27, f28, f29, f30, f31, f32, f33, f34, f35, f36, f37, f38, f39, f40, f41, f42, f43, f44, f45, f46, f59, f60, f61, f62, f63, f64, f65, f66, f67, f68, f69, f70, f71, f72, f73, f74, f75, f76, f77, f78, f79, f80, f81, f82, f83, f84, f85, f86, f87, f88, f89, f90, f91, f92, f93, f94, f95, f96, f97, f98, f99, f100, f101, f102, f103, f104, f49, f50, f53, f54]
  clear hold hnew hst
  have HK := Lib.hid (⟨hO3.own, hO3.len, hO3.lies, hI⟩ : KdSt w0 A3 n3 cap3 L3 w1)
  have HLT := Lib.hid hL3
  clear hO3 hL3 hI JFS JNE JD
  clear p0 p1 p2 p3 p4 p5 p6 p7; obtain ⟨⟨p0, p1, p2, p3, p4, p5, p6, p7⟩, _⟩ := (HX.out.ev HK.out.ev).eight
  go_wp2
  have HLE : Hid (L3.length ≤ 30000) := Lib.hid (by have := congrArg List.length HLT.out; simp at this; omega)
  have HLN := Lib.hid HK.out.len
  obtain ⟨hd, hhd⟩ : ∃ hd, hd = L3.map M.t := ⟨_, rfl⟩
  have HRD : Hid (R = pOpen (hd ++ m.kids.map fun x => pTree x.p)) := Lib.hid (by rw [HRT.out, hhd, HLT.out])
  have HHD := Lib.hid hhd
  clear hhd
  go_loopw [3, 93] (fun kv iv wr => ∃ (A1 : Option Addr) (n1 cap1 j : Nat) (L : List M), kv = .slice A1 n1 cap1 ∧ iv = .int .i64 (j : Int) ∧ j ≤ m.kids.length ∧ Hid (KdSt w0 A1 n1 cap1 L wr) ∧ Hid (L.map M.t = hd ++ (m.kids.take j).map fun x => pTree x.p)) (fun _ iv _ => m.kids.length - (intOf iv).toNat)
  case atStart => exact ⟨_, n3, cap3, 0, L3, rfl, rfl, Nat.zero_le _, HK, Lib.hid (by rw [HHD.out]; simp)⟩
  case round =>
    obtain ⟨A1, n1, cap1, j, L, rfl, rfl, hj, HS, HR⟩ := hrel
    have HEW := Lib.hid (HE.out.trans HS.out.ev)
    by_cases hlt : j < m.kids.length
    · obtain ⟨x, hx⟩ := HPS.out.at hlt
      obtain ⟨b, off, rfl, hb_, _⟩ := HPS.out.rd (by omega)
      obtain ⟨x0, x1, x2, x3, x4, x5, x6, x7⟩ := Ps.cell (HPS.out.ev HEW.out) hx
      unfold Sle.v PM.kv at *
      have hxm := List.mem_of_getElem? hx
      have HTK : Hid ((m.kids.take (j + 1)).map (fun x => pTree x.p) = (m.kids.take j).map (fun x => pTree x.p) ++ [pTree x.p]) := Lib.hid (by
        obtain ⟨hk2, e⟩ := List.getElem?_eq_some_iff.1 hx
        rw [List.take_succ_eq_append_getElem hk2, e, List.map_append]
        rfl)
      have HI := Lib.hid (fun w1 (hE : Ev w w1) => HIH.out x hxm w1 hE)
      have HLL := Lib.hid HS.out.len
      have HNL : Hid (L.length ≤ 50000) := Lib.hid (by
        have h5 := congrArg List.length HR.out
        rw [List.length_append, List.length_map, List.length_map, HHD.out, List.length_map, List.length_take] at h5
        have := HLE.out; have := HKN.out
        omega)
      have i1 : (0 : Int) ≤ (j : Int) := by omega
      have i2 : (j : Int) < (m.kids.length : Int) := by omega
      clear hx hxm
      go_wp2_with (first
        | ((with_reducible refine (HI.out _ (HEW.out.trans (Ev.alloc wr _))).mono ?_); rintro e w1 ⟨x', rfl, hxt, hxl, hE1⟩; have HXT := Lib.hid hxt; have HXL := Lib.hid hxl; have E1 := Lib.hid ((Ev.alloc wr _).trans hE1); clear hxt hxl)
        | ((show wpList _ _ _ (⟨some 101, _, _, _, _, _⟩ :: _) _ _); refine wpList_append_ow (o := ⟨some 101, _, _, _, _, _⟩) rfl 65 (.tmp 97) (.tmp 100) rfl encM Tryz.underlying65 Tryz.infoTree rfl rfl (HS.out.own.ev (E1.out.trans (Ev.alloc w1 _))) (some ⟨w1.heap.size, 0, none⟩) 1 1 [x'] rfl (Sl.one (et := 67) encM w1 x' _ rfl) (by have := HNL.out; simp; omega) (by have := HNL.out; simp; omega) ((HS.out.ev.trans E1.out).trans (Ev.alloc w1 _)).size ?_; intro v2 w2 hA2; obtain ⟨A2, cap2, rfl, ST2⟩ := HS.out.next (E1.out.trans (Ev.alloc w1 _)) ((HXL.out.low (Ev.alloc wr (.cells #[.int .i64 x.kind, .string ⟨x.name.toArray⟩, .slice x.ex.A x.ex.l.length x.ex.cap, .slice x.co.A x.co.l.length x.co.cap, .slice x.lf.A x.lf.l.length x.lf.cap, .slice x.rt.A x.rt.l.length x.rt.cap, .slice x.ag.A x.ag.l.length x.ag.cap, .slice x.A x.kids.length x.cap] 27)).size).ev (Ev.alloc w1 _)) hA2))
      go_roundw
      case rel => exact ⟨A2, n1 + 1, cap2, j + 1, L ++ [x'], rfl, by go_num, by omega, Lib.hid ST2, Lib.hid (by rw [HTK.out, List.map_append, HR.out, List.map_cons, List.map_nil, HXT.out, List.append_assoc])⟩
      case measure => simp [intOf]; omega
    · obtain rfl : j = m.kids.length := by omega
      obtain ⟨hlx, hnl⟩ := HS.out.done
      have HNL := Lib.hid hnl
      have hbl := HB.out.lt
      have HLX2 := Lib.hid (hlx.less (K' := [w.heap.size + 1]) fun k hk => by simp at hk; subst hk; exact .inr (.inl hbl))
      have HTT : Hid (M.t (.mk 1 [] 0 A1 cap1 L 0) = R) := Lib.hid (by
        have h5 := HR.out
        rw [List.take_length] at h5
        simp only [M.t, M.ts_map]
        rw [h5, HRD.out]
        rfl)
      have HOP := Lib.hid (pl_open A1 n1 cap1 wr)
      have HSZ := Lib.hid HE.out.size
      have HBL := Lib.hid hbl
      clear hlx hnl hbl
      go_wp2_with (first
        | ((with_reducible refine HOP.out.mono ?_); rintro e w2 ⟨rfl, hE2⟩; have HE2 := Lib.hid hE2; have HBR := Lib.hid (HB.out.ev (HS.out.ev.trans hE2)); obtain ⟨⟨d0, d1, d2, d3, d4⟩, r0, r1, r2, r3, r4⟩ := HBR.out.five; clear hE2))
      (try simp only [Exit.inBlock, Exit.then])
      rw [set5_fold]
      refine bodyPost_ret (results_cell1 rfl _ _ _ _ _ rfl (HBR.out.set5 _ _ _ _ _) Tryz.underlying67 rfl Tryz.sizeTree) rfl ?_
      refine ⟨.mk 1 [] 0 A1 cap1 L 0, by simp only [M.kids, M.kind, M.s, M.n, M.A, M.cap, M.pos]; rw [← HNL.out]; rfl, HTT.out, ?_, (HEW.out.trans HE2.out).box (set5_but _ _ _ _ _ _ _) (by omega)⟩
      exact (((HLX2.out.ev HE2.out)).move (set5_but _ _ _ _ _ _ _) fun k hk => by cases hk).low HSZ.out
end Go.Proofs.YtojbahjebfcmgaaGreatDoor
