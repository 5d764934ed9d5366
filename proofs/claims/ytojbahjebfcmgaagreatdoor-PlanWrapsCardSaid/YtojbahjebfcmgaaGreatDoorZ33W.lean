/-
  Texts that belong together: Package plan: the tree of a group. Package plan: the reader: a plan of each form. Package plan: the reader: a project.
-/
import Derived.Test.YtojbahjebfcmgaaGreatDoorZ32W
import Derived.Test.YtojbahjebfcmgaaGreatDoorZ30W
import Derived.Test.YtojbahjebfcmgaaGreatDoorZ29W
import Derived.Test.YtojbahjebfcmgaaGreatDoorZ31W
namespace Go.Proofs.YtojbahjebfcmgaaGreatDoor
open Go.RowKit
set_option linter.unusedVariables false

set_option maxRecDepth 100000 in
set_option maxHeartbeats 16000000 in
theorem pl_treeGroup (m : PM) (b0 : Nat) (w : World) (h : Qx b0 [] w m) (hk : m.kind = 7) (hll : m.lf.l.length ≤ 10000) (hal : m.ag.l.length ≤ 10000) (hkn : m.kids.length ≤ 10000) (ih : ∀ x ∈ m.kids, ∀ w1, Ev w w1 → Calls Tryz.prog 60 #[pv x] w1 (TrOut (pTree x.p) w1)) :
    Calls Tryz.prog 60 #[pv m] w (TrOut (pTree m.p) w) := by
  have hmix : Tryz.prog.follows .mixedOrders = true := by kernel_rfl
  have HT0 := pTree_m m
  rw [hk] at HT0
  obtain ⟨R, hR⟩ : ∃ R, R = pTree m.p := ⟨_, rfl⟩
  rw [← hR] at HT0 ⊢
  have HRT : Hid (R = pOpen ((([bGroup].map pAtom ++ [pNames m.lf.l]) ++ m.ag.l.map agTree) ++ m.kids.map fun x => pTree x.p)) := Lib.hid HT0
  obtain ⟨hex, hlx, hco, hlf, hrt, hag, hks, hkq⟩ := h.at
  have hps := h.ps
  have hkc := h.ps.le
  have hkm := h.ps.max
  have HIH := Lib.hid ih
  unfold pv Sle.v PM.kv TrOut
  unfold pv Sle.v PM.kv TrOut at HIH
  rw [hk]
  clear hks hkq h
  generalize m.A = mA at *
  generalize m.cap = mcap at *
  have HPS := Lib.hid hps
  obtain ⟨w0, hw0, hE0, hX, hB⟩ := bx_plr w (.int .i64 7) (.string ⟨m.name.toArray⟩) (.slice m.ex.A m.ex.l.length m.ex.cap) (.slice m.co.A m.co.l.length m.co.cap) (.slice m.lf.A m.lf.l.length m.lf.cap) (.slice m.rt.A m.rt.l.length m.rt.cap) (.slice m.ag.A m.ag.l.length m.ag.cap) (.slice mA m.kids.length mcap)
  obtain ⟨⟨p0, p1, p2, p3, p4, p5, p6, p7⟩, _⟩ := hX.eight
  have HX := Lib.hid hX
  have HB := Lib.hid hB
  have HE := Lib.hid hE0
  have HEX := Lib.hid hex
  have HLX := Lib.hid hlx
  have HCO := Lib.hid hco
  have HLF := Lib.hid hlf
  have HRI := Lib.hid hrt
  have HAG := Lib.hid hag
  have HKN := Lib.hid hkn
  clear HT0 hX hB hE0 hex hlx hco hlf hrt hag ih hR hk hps
  have HLS := Lib.hid HLF.out.sl
  have HLLE := Lib.hid hll
  generalize m.lf.A = lA at *
  generalize m.lf.cap = lcap at *
  clear hll
  go_enter Tryz.func60, Tryz.ntmps60
  go_upto_region 21 with fail
  have JFS : ∀ f ∈ ([(4, 73, FO w0.heap.size (m.lf.l.map pAtom)), (5, 74, FT w0.heap.size (pNames m.lf.l)), (6, 75, FM w0.heap.size [pNames m.lf.l])] : List (Nat × Nat × (List Nat → Value → World → Prop))), JF f.2.2 := fun f hf => by
    simp only [List.mem_cons, List.not_mem_nil, or_false] at hf
    rcases hf with rfl | rfl | rfl <;> first | exact FT.jf _ _ | exact FM.jf _ _ | exact FO.jf _ _
  have JNE : ∀ f ∈ ([(4, 73, FO w0.heap.size (m.lf.l.map pAtom)), (5, 74, FT w0.heap.size (pNames m.lf.l)), (6, 75, FM w0.heap.size [pNames m.lf.l])] : List (Nat × Nat × (List Nat → Value → World → Prop))), f.1 ≠ 1 ∧ f.2.1 ≠ 70 := fun f hf => by
    simp only [List.mem_cons, List.not_mem_nil, or_false] at hf
    rcases hf with rfl | rfl | rfl <;> simp
  have JD : ∀ i ∈ ([4, 5, 6] : List Nat), ∀ dd, (i, dd) ∈ ([(4, 73), (5, 74), (6, 75)] : List (Nat × Nat)) → ∀ f ∈ ([(4, 73, FO w0.heap.size (m.lf.l.map pAtom)), (5, 74, FT w0.heap.size (pNames m.lf.l)), (6, 75, FM w0.heap.size [pNames m.lf.l])] : List (Nat × Nat × (List Nat → Value → World → Prop))), f.1 ≠ i → f.2.1 ≠ dd := fun i hi dd hd f hf hne => by
    simp only [List.mem_cons, List.not_mem_nil, or_false, Prod.mk.injEq] at hf hd
    rcases hf with rfl | rfl | rfl <;> (simp only at hne ⊢; omega)
  refine wp_region_slotsG hmix (fun u => Ev w0 u) (fun p _ _ => match p with | 0 => True | _ + 1 => False) [7] (fun _ _ => True) [0] [[7, 8]] 7 [FSs bGroup, fun _ _ => True, fun v _ => v = .pointer (some ⟨w.heap.size, 4, none⟩), fun v _ => v = .slice lA m.lf.l.length lcap, fun _ _ => True, fun _ _ => True, fun _ _ => True, P0T w0.heap.size ([bGroup].map pAtom ++ [pNames m.lf.l]), P0T w0.heap.size ([bGroup].map pAtom ++ [pNames m.lf.l])]
    105 1 rfl (by kernel_rfl) ⟨FSs.mono _, mono_true, mono_eq _, mono_eq _, mono_true, mono_true, mono_true, P0T.mono _ _, P0T.mono _ _, trivial⟩ ⟨Or.inl rfl, Or.inr fun p => Or.inr fun _ _ _ _ h => h, Or.inr fun p => Or.inr fun _ _ _ _ h => h, Or.inr fun p => Or.inr fun _ _ _ _ h => h, Or.inr fun p => Or.inr fun _ _ _ _ h => h, Or.inr fun p => Or.inr fun _ _ _ _ h => h, Or.inr fun p => Or.inr fun _ _ _ _ h => h, Or.inr fun p => match p with | 0 => Or.inl rfl | _ + 1 => Or.inr fun _ _ _ hb h => hb.elim, Or.inr fun p => match p with | 0 => Or.inl rfl | _ + 1 => Or.inr fun _ _ _ hb h => hb.elim, trivial⟩ (by kernel_rfl) rfl (by kernel_rfl) (fun _ _ _ _ _ => trivial) (fun u u' hE h => h.trans hE) (Ev.refl _) (trivial) (by kernel_rfl) (GJ 1 70 (P0T w0.heap.size ([bGroup].map pAtom)) [(4, 73, FO w0.heap.size (m.lf.l.map pAtom)), (5, 74, FT w0.heap.size (pNames m.lf.l)), (6, 75, FM w0.heap.size [pNames m.lf.l])]) [1, 4, 5, 6] (by kernel_rfl) (fun L L' a a' u u' hL ha hE h => GJ.keep (fun v u u' hE h => h.ev hE) JFS (hL 1 (by decide)) (fun f hf => by simp only [List.mem_cons, List.not_mem_nil, or_false] at hf; rcases hf with rfl | rfl | rfl <;> exact hL _ (by simp)) (ha 1 (by decide) _ (by kernel_rfl)) (fun f hf => by simp only [List.mem_cons, List.not_mem_nil, or_false] at hf; rcases hf with rfl | rfl | rfl; exact ha 4 (by simp) 73 (by kernel_rfl); exact ha 5 (by simp) 74 (by kernel_rfl); exact ha 6 (by simp) 75 (by kernel_rfl)) hE h) (fun L hL => GJ.none hL) ?_ ?_ ?_ ?_
  · refine opc_cons 0 ?_ (opc_turn 1 (by decide) (opc_cons 2 ?_ (opc_cons 3 ?_ (opc_turn 4 (by decide) (opc_turn 5 (by decide) (opc_turn 6 (by decide) (opc_turn 7 (by decide) (opc_cons 8 ?_ (opc_nil 9)))))))))
    · refine opg_makes fun a wq c => ⟨(wanted_plain rfl), _, _, run_build_text bGroup rfl (evc a _) wq, Ev.alloc _ _, c.inv.trans (Ev.alloc wq _), ⟨_, rfl, Ss.made wq [bGroup] _ rfl (by simp)⟩⟩
    · refine opg_value fun a wq c => ⟨(wanted_plain rfl), .pointer (some ⟨w.heap.size, 4, none⟩), ?_, rfl⟩
      have e_0 : a.eval (.tmp 1) = .pointer (some ⟨w.heap.size, 0, none⟩) := (c.was 1 (by kernel_rfl) rfl)
      generalize a.eval = ρ at e_0 ⊢
      simp [execOp, e_0, go_sem]
    · refine opg_value fun a wq c => ⟨(wanted_plain rfl), .slice lA m.lf.l.length lcap, ?_, rfl⟩
      have e_0 : a.eval (.tmp 71) = .pointer (some ⟨w.heap.size, 4, none⟩) := (c.new 2 71 (by kernel_rfl) (by kernel_rfl) (by kernel_rfl))
      have q0 := (c.inv.cell (p := ⟨w.heap.size, 4, none⟩) HX.out.lt).trans p4
      generalize a.eval = ρ at e_0 ⊢
      simp [execOp, e_0, q0, go_sem]
    · refine opg_value fun a w c => ⟨(wanted_plain rfl), _, run_assign _ rfl w, (c.new 7 76 (by kernel_rfl) (by kernel_rfl) (by kernel_rfl))⟩
  · refine sps_cons rfl ?_ (sps_cons rfl ?_ (sps_cons rfl ?_ (sps_cons rfl ?_ sps_nil)))
    · refine ops_call fun a wq L c hs hp hu hg => ?_
      obtain ⟨g_, e_, hS_⟩ := (c.got 0 69 (by kernel_rfl) (by kernel_rfl) (by kernel_rfl) rfl : FSs bGroup _ _)
      refine ⟨wanted_plain rfl, 109, #[.slice (some ⟨g_, 0, none⟩) 1 1], ?_, ?_⟩
      · rw [run_call 109 _ _ rfl (by kernel_rfl)]
        simp [e_]
      · refine (pl_atoms [bGroup] _ 1 1 wq hS_ (by omega)).mono ?_
        rintro r wp hA_
        obtain ⟨v_, rfl, hP_, hn_, hE_⟩ := hA_.p0 (b0 := w0.heap.size) c.inv.size
        exact ⟨v_, rfl, hE_, c.inv.trans hE_, trivial, fun L' h1 h2 => GJ.first JFS hg hu hE_ JNE (Nat.lt_of_lt_of_eq (by decide : 70 < 105) hs.symm) hP_ hn_ h1 h2⟩
    · refine ops_call fun a wq L c hs hp hu hg => ?_
      have e_ : a.eval (.tmp 72) = .slice lA m.lf.l.length lcap := (c.new 3 72 (by kernel_rfl) (by kernel_rfl) (by kernel_rfl))
      refine ⟨wanted_plain rfl, 109, #[.slice lA m.lf.l.length lcap], ?_, ?_⟩
      · rw [run_call 109 _ _ rfl (by kernel_rfl)]
        simp [e_]
      · refine (pl_atoms m.lf.l _ _ _ wq (HLS.out.ev (HE.out.trans c.inv)) (by have := HLLE.out; omega)).mono ?_
        rintro r wp hA_
        obtain ⟨v_, rfl, hF_, hE_⟩ := hA_.fo (b0 := w0.heap.size) c.inv.size hg.old
        exact ⟨v_, rfl, hE_, c.inv.trans hE_, trivial, fun L' h1 h2 => GJ.other (fun v u u' hE h => h.ev hE) JFS hg hE_ (by decide) (JD 4 (by simp) 73 (by simp)) (Nat.lt_of_lt_of_eq (by decide : 73 < 105) hs.symm) (fun f hf he => by have hfin_ := hF_; simp only [List.mem_cons, List.not_mem_nil, or_false] at hf; rcases hf with rfl | rfl | rfl; exact ⟨rfl, hfin_⟩; exact absurd he (by simp); exact absurd he (by simp)) h1 h2⟩
    · refine ops_call fun a wq L c hs hp hu hg => ?_
      obtain ⟨A_, n_, cap_, Z_, e_, hn_, hz_, hl_⟩ := hg.2 (4, 73, FO w0.heap.size (m.lf.l.map pAtom)) (by simp) (hp 4 (by kernel_rfl))
      refine ⟨wanted_plain rfl, 112, #[.slice A_ n_ cap_], ?_, ?_⟩
      · rw [run_call 112 _ _ rfl (by kernel_rfl)]
        simp [e_]
      · refine (pl_open A_ n_ cap_ wq).mono ?_
        rintro r wp ⟨rfl, hE_⟩
        exact ⟨_, rfl, hE_, c.inv.trans hE_, trivial, fun L' h1 h2 => GJ.other (fun v u u' hE h => h.ev hE) JFS hg hE_ (by decide) (JD 5 (by simp) 74 (by simp)) (Nat.lt_of_lt_of_eq (by decide : 74 < 105) hs.symm) (fun f hf he => by have hfin_ := (⟨.mk 1 [] 0 A_ cap_ Z_ 0, by rw [hn_]; rfl, by simp only [M.t, M.ts_map]; rw [hz_]; rfl, hl_.ev hE_⟩ : FT w0.heap.size (pNames m.lf.l) (if L 1 = true then foot (a.eval (.tmp 70)) else []) (.agg #[.int .i64 1, .string ⟨#[]⟩, .int .i64 0, .slice A_ n_ cap_, .int .i64 0]) wp); simp only [List.mem_cons, List.not_mem_nil, or_false] at hf; rcases hf with rfl | rfl | rfl; exact absurd he (by simp); exact ⟨rfl, hfin_⟩; exact absurd he (by simp)) h1 h2⟩
    · refine ops_makes fun a wq L c hs hp hu hg => ?_
      obtain ⟨m0_, e0_, ht0_, hl0_⟩ := hg.2 (5, 74, FT w0.heap.size (pNames m.lf.l)) (by simp) (hp 5 (by kernel_rfl))
      exact ⟨wanted_plain rfl, _, _, run_build_tree m0_ rfl e0_ wq, Ev.alloc _ _, c.inv.trans (Ev.alloc wq _), trivial, fun L' h1 h2 => GJ.other (fun v u u' hE h => h.ev hE) JFS hg (Ev.alloc _ _) (by decide) (JD 6 (by simp) 75 (by simp)) (Nat.lt_of_lt_of_eq (by decide : 75 < 105) hs.symm) (fun f hf he => by have hfin_ := (FT.slice m0_ ht0_ hl0_); simp only [List.mem_cons, List.not_mem_nil, or_false] at hf; rcases hf with rfl | rfl | rfl; exact absurd he (by simp); exact absurd he (by simp); exact ⟨rfl, hfin_⟩) h1 h2⟩
  · refine trn_cons 0 rfl ?_ (trn_nil 1)
    · refine opv_makes fun a wq c st hg => ?_
      obtain ⟨L_, hL_, hG_⟩ := hg rfl
      have hP_ := hG_.1 (hL_ 1 (by kernel_rfl))
      have hF_ := hG_.2 (6, 75, FM w0.heap.size [pNames m.lf.l]) (by simp) (hL_ 6 (by kernel_rfl))
      rw [if_pos (hL_ 1 (by kernel_rfl))] at hF_
      obtain ⟨v_, w_, hr_, hP2_, hb_⟩ := run_append_trees (o := ⟨some 76, _, _, _, _, _⟩) rfl rfl rfl hP_ hF_ (by simp) c.inv.size
      exact ⟨wanted_plain rfl, v_, w_, hr_, trivial, But.to_ev c.inv hb_ fun y hy => (hP_.foot_lt y hy).1, trivial, hP2_⟩
  intro sl w1 hI hold hnew hst
  obtain ⟨A3, n3, cap3, L3, f3, hO3, hL3⟩ := (hnew 8 3 (by kernel_rfl) (by kernel_rfl) : P0T w0.heap.size ([bGroup].map pAtom ++ [pNames m.lf.l]) (sl 3) w1)
  have f0 : sl 0 = .agg #[.int .i64 7, .string ⟨m.name.toArray⟩, .slice m.ex.A m.ex.l.length m.ex.cap, .slice m.co.A m.co.l.length m.co.cap, .slice lA m.lf.l.length lcap, .slice m.rt.A m.rt.l.length m.rt.cap, .slice m.ag.A m.ag.l.length m.ag.cap, .slice mA m.kids.length mcap] := hold 0 (by kernel_rfl)
  have f1 : sl 1 = .pointer (some ⟨w.heap.size, 0, none⟩) := hold 1 (by kernel_rfl)
  have f2 : sl 2 = .pointer (some ⟨w.heap.size + 1, 0, none⟩) := hold 2 (by kernel_rfl)
  have f4 : sl 4 = undef := hold 4 (by kernel_rfl)
  have f5 : sl 5 = undef := hold 5 (by kernel_rfl)
  have f6 : sl 6 = undef := hold 6 (by kernel_rfl)
  have f7 : sl 7 = undef := hold 7 (by kernel_rfl)
  have f8 : sl 8 = undef := hold 8 (by kernel_rfl)
  have f9 : sl 9 = undef := hold 9 (by kernel_rfl)
  have f10 : sl 10 = .pointer (some ⟨w.heap.size, 0, none⟩) := hold 10 (by kernel_rfl)
  have f11 : sl 11 = .int .i64 7 := hold 11 (by kernel_rfl)
  have f12 : sl 12 = .bool false := hold 12 (by kernel_rfl)
  have f13 : sl 13 = .bool false := hold 13 (by kernel_rfl)
  have f14 : sl 14 = undef := hold 14 (by kernel_rfl)
  have f15 : sl 15 = undef := hold 15 (by kernel_rfl)
  have f16 : sl 16 = undef := hold 16 (by kernel_rfl)
  have f17 : sl 17 = undef := hold 17 (by kernel_rfl)
  have f18 : sl 18 = .bool false := hold 18 (by kernel_rfl)
  have f19 : sl 19 = .bool false := hold 19 (by kernel_rfl)
  have f20 : sl 20 = undef := hold 20 (by kernel_rfl)
  have f21 : sl 21 = undef := hold 21 (by kernel_rfl)
  have f22 : sl 22 = undef := hold 22 (by kernel_rfl)
  have f23 : sl 23 = undef := hold 23 (by kernel_rfl)
  have f24 : sl 24 = undef := hold 24 (by kernel_rfl)
  have f25 : sl 25 = undef := hold 25 (by kernel_rfl)
  have f26 : sl 26 = undef := hold 26 (by kernel_rfl)
  have f27 : sl 27 = undef := hold 27 (by kernel_rfl)
  have f28 : sl 28 = undef := hold 28 (by kernel_rfl)
  have f29 : sl 29 = undef := hold 29 (by kernel_rfl)
  have f30 : sl 30 = undef := hold 30 (by kernel_rfl)
  have f31 : sl 31 = undef := hold 31 (by kernel_rfl)
  have f32 : sl 32 = undef := hold 32 (by kernel_rfl)
  have f33 : sl 33 = undef := hold 33 (by kernel_rfl)
  have f34 : sl 34 = undef := hold 34 (by kernel_rfl)
  have f35 : sl 35 = .bool false := hold 35 (by kernel_rfl)
  have f36 : sl 36 = .bool false := hold 36 (by kernel_rfl)
  have f37 : sl 37 = undef := hold 37 (by kernel_rfl)
  have f38 : sl 38 = undef := hold 38 (by kernel_rfl)
  have f39 : sl 39 = undef := hold 39 (by kernel_rfl)
  have f40 : sl 40 = undef := hold 40 (by kernel_rfl)
  have f41 : sl 41 = undef := hold 41 (by kernel_rfl)
  have f42 : sl 42 = undef := hold 42 (by kernel_rfl)
  have f43 : sl 43 = undef := hold 43 (by kernel_rfl)
  have f44 : sl 44 = undef := hold 44 (by kernel_rfl)
  have f45 : sl 45 = .bool false := hold 45 (by kernel_rfl)
  have f46 : sl 46 = .bool false := hold 46 (by kernel_rfl)
  have f47 : sl 47 = undef := hold 47 (by kernel_rfl)
  have f48 : sl 48 = undef := hold 48 (by kernel_rfl)
  have f49 : sl 49 = undef := hold 49 (by kernel_rfl)
  have f50 : sl 50 = undef := hold 50 (by kernel_rfl)
  have f51 : sl 51 = undef := hold 51 (by kernel_rfl)
  have f52 : sl 52 = undef := hold 52 (by kernel_rfl)
  have f53 : sl 53 = undef := hold 53 (by kernel_rfl)
  have f54 : sl 54 = undef := hold 54 (by kernel_rfl)
  have f55 : sl 55 = undef := hold 55 (by kernel_rfl)
  have f56 : sl 56 = undef := hold 56 (by kernel_rfl)
  have f57 : sl 57 = undef := hold 57 (by kernel_rfl)
  have f58 : sl 58 = undef := hold 58 (by kernel_rfl)
  have f59 : sl 59 = .bool false := hold 59 (by kernel_rfl)
  have f60 : sl 60 = .bool false := hold 60 (by kernel_rfl)
  have f61 : sl 61 = undef := hold 61 (by kernel_rfl)
  have f62 : sl 62 = undef := hold 62 (by kernel_rfl)
  have f63 : sl 63 = .bool false := hold 63 (by kernel_rfl)
  have f64 : sl 64 = .bool false := hold 64 (by kernel_rfl)
  have f65 : sl 65 = undef := hold 65 (by kernel_rfl)
  have f66 : sl 66 = undef := hold 66 (by kernel_rfl)
  have f67 : sl 67 = .bool true := hold 67 (by kernel_rfl)
  have f68 : sl 68 = .bool true := hold 68 (by kernel_rfl)
  have f77 : sl 77 = undef := hold 77 (by kernel_rfl)
  have f78 : sl 78 = undef := hold 78 (by kernel_rfl)
  have f79 : sl 79 = undef := hold 79 (by kernel_rfl)
  have f80 : sl 80 = undef := hold 80 (by kernel_rfl)
  have f81 : sl 81 = undef := hold 81 (by kernel_rfl)
  have f82 : sl 82 = undef := hold 82 (by kernel_rfl)
  have f83 : sl 83 = undef := hold 83 (by kernel_rfl)
  have f84 : sl 84 = undef := hold 84 (by kernel_rfl)
  have f85 : sl 85 = undef := hold 85 (by kernel_rfl)
  have f86 : sl 86 = undef := hold 86 (by kernel_rfl)
  have f87 : sl 87 = undef := hold 87 (by kernel_rfl)
  have f88 : sl 88 = undef := hold 88 (by kernel_rfl)
  have f89 : sl 89 = undef := hold 89 (by kernel_rfl)
  have f90 : sl 90 = undef := hold 90 (by kernel_rfl)
  have f91 : sl 91 = undef := hold 91 (by kernel_rfl)
  have f92 : sl 92 = undef := hold 92 (by kernel_rfl)
  have f93 : sl 93 = undef := hold 93 (by kernel_rfl)
  have f94 : sl 94 = undef := hold 94 (by kernel_rfl)
  have f95 : sl 95 = undef := hold 95 (by kernel_rfl)
  have f96 : sl 96 = undef := hold 96 (by kernel_rfl)
  have f97 : sl 97 = undef := hold 97 (by kernel_rfl)
  have f98 : sl 98 = undef := hold 98 (by kernel_rfl)
  have f99 : sl 99 = undef := hold 99 (by kernel_rfl)
  have f100 : sl 100 = undef := hold 100 (by kernel_rfl)
  have f101 : sl 101 = undef := hold 101 (by kernel_rfl)
  have f102 : sl 102 = undef := hold 102 (by kernel_rfl)
  have f103 : sl 103 = undef := hold 103 (by kernel_rfl)
  have f104 : sl 104 = undef := hold 104 (by kernel_rfl)
  have f71 : sl 71 = .pointer (some ⟨w.heap.size, 4, none⟩) := hnew 2 71 (by kernel_rfl) (by kernel_rfl)
  have f72 : sl 72 = .slice lA m.lf.l.length lcap := hnew 3 72 (by kernel_rfl) (by kernel_rfl)
  change (_ : Act → World → Prop) ⟨#[sl 0, sl 1, sl 2, sl 3, sl 4, sl 5, sl 6, sl 7, sl 8, sl 9, sl 10, sl 11, sl 12, sl 13, sl 14, sl 15, sl 16, sl 17, sl 18, sl 19, sl 20, sl 21, sl 22, sl 23, sl 24, sl 25, sl 26, sl 27, sl 28, sl 29, sl 30, sl 31, sl 32, sl 33, sl 34, sl 35, sl 36, sl 37, sl 38, sl 39, sl 40, sl 41, sl 42, sl 43, sl 44, sl 45, sl 46, sl 47, sl 48, sl 49, sl 50, sl 51, sl 52, sl 53, sl 54, sl 55, sl 56, sl 57, sl 58, sl 59, sl 60, sl 61, sl 62, sl 63, sl 64, sl 65, sl 66, sl 67, sl 68, sl 69, sl 70, sl 71, sl 72, sl 73, sl 74, sl 75, sl 76, sl 77, sl 78, sl 79, sl 80, sl 81, sl 82, sl 83, sl 84, sl 85, sl 86, sl 87, sl 88, sl 89, sl 90, sl 91, sl 92, sl 93, sl 94, sl 95, sl 96, sl 97, sl 98, sl 99, sl 100, sl 101, sl 102, sl 103, sl 104], _⟩ _
  simp only [f3, f0, f1, f2, f4, f5, f6, f7, f8, f9, f10, f11, f12, f13, f14, f15, f16, f17, f18, f19, f20, f21, f22, f23, f24, f25, f26, f27, f28, f29, f30, f31, f32, f33, f34, f35, f36, f37, f38, f39, f40, f41, f42, f43, f44, f45, f46, f47, f48, f49, f50, f51, f52, f53, f54, f55, f56, f57, f58, f59, f60, f61, f62, f63, f64, f65, f66, f67, f68, f77, f78, f79, f80, f81, f82, f83, f84, f85, f86, f87, f88, f89, f90, f91, f92, f93, f94, f95, f96, f97, f98, f99, f100, f101, f102, f103, f104, f71, f72]
  clear hold hnew hst
  have HK := Lib.hid (⟨hO3.own, hO3.len, hO3.lies, hI⟩ : KdSt w0 A3 n3 cap3 L3 w1)
  have HLT := Lib.hid hL3
  clear hO3 hL3 hI JFS JNE JD
  clear p0 p1 p2 p3 p4 p5 p6 p7; obtain ⟨⟨p0, p1, p2, p3, p4, p5, p6, p7⟩, _⟩ := (HX.out.ev HK.out.ev).eight
  have hals := HAG.out.sl
  have hac := hals.le
  have ham := hals.max
  have HALE := Lib.hid hal
  generalize m.ag.A = aA at *
  generalize m.ag.cap = acap at *
  have HALS := Lib.hid hals
  have HGT := Lib.hid (fun a w1 => pl_aggTree a w1)
  unfold TrOut at HGT
  clear hals hal
  go_wp2
  go_loopw [3, 80] (fun kv iv wr => ∃ (A1 : Option Addr) (n1 cap1 j : Nat) (L : List M), kv = .slice A1 n1 cap1 ∧ iv = .int .i64 (j : Int) ∧ j ≤ m.ag.l.length ∧ Hid (KdSt w0 A1 n1 cap1 L wr) ∧ Hid (L.map M.t = ([bGroup].map pAtom ++ [pNames m.lf.l]) ++ (m.ag.l.take j).map agTree)) (fun _ iv _ => m.ag.l.length - (intOf iv).toNat)
  case atStart => exact ⟨_, n3, cap3, 0, L3, rfl, rfl, Nat.zero_le _, HK, Lib.hid (by rw [HLT.out]; simp)⟩
  case round =>
    obtain ⟨A5, n5, cap5, j, L5, rfl, rfl, hj, HS, HR⟩ := hrel
    have HEW := Lib.hid (HE.out.trans HS.out.ev)
    clear p0 p1 p2 p3 p4 p5 p6 p7
    obtain ⟨⟨p0, p1, p2, p3, p4, p5, p6, p7⟩, _⟩ := (HX.out.ev HS.out.ev).eight
    by_cases hlt : j < m.ag.l.length
    · obtain ⟨x, hx⟩ := HALS.out.at hlt
      obtain ⟨b, off, rfl, hb, hc⟩ := (HALS.out.ev HEW.out).rd (by omega)
      have x0 := hc j x hx 0 _ rfl
      have x1 := hc j x hx 1 _ rfl
      have x2 := hc j x hx 2 _ rfl
      simp only [Nat.add_zero] at x0
      have HTK : Hid ((m.ag.l.take (j + 1)).map agTree = (m.ag.l.take j).map agTree ++ [agTree x]) := Lib.hid (by
        obtain ⟨hk2, e⟩ := List.getElem?_eq_some_iff.1 hx
        rw [List.take_succ_eq_append_getElem hk2, e, List.map_append]
        rfl)
      have HI := Lib.hid (HGT.out x)
      have HLL := Lib.hid HS.out.len
      have HNL : Hid (L5.length ≤ 10002) := Lib.hid (by
        have h5 := congrArg List.length HR.out
        rw [List.length_append, List.length_append, List.length_map, List.length_map, List.length_map, List.length_take] at h5
        have := HALE.out
        simp at h5
        omega)
      have i1 : (0 : Int) ≤ (j : Int) := by omega
      have i2 : (j : Int) < (m.ag.l.length : Int) := by omega
      clear hx hc
      go_wp2_with (first
        | ((with_reducible refine (HI.out _).mono ?_); rintro e w5 ⟨x', rfl, hxt, hxl, hE1⟩; have HXT := Lib.hid hxt; have HXL := Lib.hid hxl; have E1 := Lib.hid ((Ev.alloc wr _).trans hE1); clear hxt hxl)
        | ((show wpList _ _ _ (⟨some 88, _, _, _, _, _⟩ :: _) _ _); refine wpList_append_ow (o := ⟨some 88, _, _, _, _, _⟩) rfl 65 (.tmp 84) (.tmp 87) rfl encM Tryz.underlying65 Tryz.infoTree rfl rfl (HS.out.own.ev (E1.out.trans (Ev.alloc w5 _))) (some ⟨w5.heap.size, 0, none⟩) 1 1 [x'] rfl (Sl.one (et := 67) encM w5 x' _ rfl) (by have := HNL.out; simp; omega) (by have := HNL.out; simp; omega) ((HS.out.ev.trans E1.out).trans (Ev.alloc w5 _)).size ?_; intro v2 w2 hA2; obtain ⟨A2, cap2, rfl, ST2⟩ := HS.out.next (E1.out.trans (Ev.alloc w5 _)) ((HXL.out.low (Ev.alloc wr (.cells #[.string ⟨x.1.toArray⟩, .string ⟨x.2.1.toArray⟩, .string ⟨x.2.2.toArray⟩] 63)).size).ev (Ev.alloc w5 _)) hA2))
      go_roundw
      case rel => exact ⟨A2, n5 + 1, cap2, j + 1, L5 ++ [x'], rfl, by go_num, by omega, Lib.hid ST2, Lib.hid (by rw [HTK.out, List.map_append, HR.out, show [x'].map M.t = [agTree x] by rw [List.map_cons, List.map_nil, HXT.out], List.append_assoc])⟩
      case measure => simp [intOf]; omega
    · obtain rfl : j = m.ag.l.length := by omega
      have HLT5 : Hid (L5.map M.t = ([bGroup].map pAtom ++ [pNames m.lf.l]) ++ m.ag.l.map agTree) := Lib.hid (by rw [HR.out, List.take_length])
      have HS0 := HS
      go_wp2
      have HLE : Hid (L5.length ≤ 30000) := Lib.hid (by have := congrArg List.length HLT5.out; simp at this; have := HALE.out; omega)
      have HLN := Lib.hid HS0.out.len
      obtain ⟨hd, hhd⟩ : ∃ hd, hd = L5.map M.t := ⟨_, rfl⟩
      have HRD : Hid (R = pOpen (hd ++ m.kids.map fun x => pTree x.p)) := Lib.hid (by rw [HRT.out, hhd, HLT5.out])
      have HHD := Lib.hid hhd
      clear hhd
      go_loopw [3, 93] (fun kv iv wr => ∃ (A1 : Option Addr) (n1 cap1 j : Nat) (L : List M), kv = .slice A1 n1 cap1 ∧ iv = .int .i64 (j : Int) ∧ j ≤ m.kids.length ∧ Hid (KdSt w0 A1 n1 cap1 L wr) ∧ Hid (L.map M.t = hd ++ (m.kids.take j).map fun x => pTree x.p)) (fun _ iv _ => m.kids.length - (intOf iv).toNat)
      case atStart => exact ⟨_, n5, cap5, 0, L5, rfl, rfl, Nat.zero_le _, HS0, Lib.hid (by rw [HHD.out]; simp)⟩
      case round =>
        obtain ⟨A1, n1, cap1, j, L, rfl, rfl, hj, HS, HR⟩ := hrel
        have HEW := Lib.hid (HE.out.trans HS.out.ev)
        by_cases hlt : j < m.kids.length
        · obtain ⟨x, hx⟩ := HPS.out.at hlt
          obtain ⟨b, off, rfl, hb_, _⟩ := HPS.out.rd (by omega)
          obtain ⟨x0, x1, x2, x3, x4, x5, x6, x7⟩ := Ps.cell (HPS.out.ev HEW.out) hx
          unfold Sle.v PM.kv at *
          have hxm := List.mem_of_getElem? hx
          have HTK : Hid ((m.kids.take (j + 1)).map (fun x => pTree x.p) = (m.kids.take j).map (fun x => pTree x.p) ++ [pTree x.p]) := Lib.hid (by
            obtain ⟨hk2, e⟩ := List.getElem?_eq_some_iff.1 hx
            rw [List.take_succ_eq_append_getElem hk2, e, List.map_append]
            rfl)
          have HI := Lib.hid (fun w1 (hE : Ev w w1) => HIH.out x hxm w1 hE)
          have HLL := Lib.hid HS.out.len
          have HNL : Hid (L.length ≤ 50000) := Lib.hid (by
            have h5 := congrArg List.length HR.out
            rw [List.length_append, List.length_map, List.length_map, HHD.out, List.length_map, List.length_take] at h5
            have := HLE.out; have := HKN.out
            omega)
          have i1 : (0 : Int) ≤ (j : Int) := by omega
          have i2 : (j : Int) < (m.kids.length : Int) := by omega
          clear hx hxm
          go_wp2_with (first
            | ((with_reducible refine (HI.out _ (HEW.out.trans (Ev.alloc wr _))).mono ?_); rintro e w1 ⟨x', rfl, hxt, hxl, hE1⟩; have HXT := Lib.hid hxt; have HXL := Lib.hid hxl; have E1 := Lib.hid ((Ev.alloc wr _).trans hE1); clear hxt hxl)
            | ((show wpList _ _ _ (⟨some 101, _, _, _, _, _⟩ :: _) _ _); refine wpList_append_ow (o := ⟨some 101, _, _, _, _, _⟩) rfl 65 (.tmp 97) (.tmp 100) rfl encM Tryz.underlying65 Tryz.infoTree rfl rfl (HS.out.own.ev (E1.out.trans (Ev.alloc w1 _))) (some ⟨w1.heap.size, 0, none⟩) 1 1 [x'] rfl (Sl.one (et := 67) encM w1 x' _ rfl) (by have := HNL.out; simp; omega) (by have := HNL.out; simp; omega) ((HS.out.ev.trans E1.out).trans (Ev.alloc w1 _)).size ?_; intro v2 w2 hA2; obtain ⟨A2, cap2, rfl, ST2⟩ := HS.out.next (E1.out.trans (Ev.alloc w1 _)) ((HXL.out.low (Ev.alloc wr (.cells #[.int .i64 x.kind, .string ⟨x.name.toArray⟩, .slice x.ex.A x.ex.l.length x.ex.cap, .slice x.co.A x.co.l.length x.co.cap, .slice x.lf.A x.lf.l.length x.lf.cap, .slice x.rt.A x.rt.l.length x.rt.cap, .slice x.ag.A x.ag.l.length x.ag.cap, .slice x.A x.kids.length x.cap] 27)).size).ev (Ev.alloc w1 _)) hA2))
          go_roundw
          case rel => exact ⟨A2, n1 + 1, cap2, j + 1, L ++ [x'], rfl, by go_num, by omega, Lib.hid ST2, Lib.hid (by rw [HTK.out, List.map_append, HR.out, List.map_cons, List.map_nil, HXT.out, List.append_assoc])⟩
          case measure => simp [intOf]; omega
        · obtain rfl : j = m.kids.length := by omega
          obtain ⟨hlx, hnl⟩ := HS.out.done
          have HNL := Lib.hid hnl
          have hbl := HB.out.lt
          have HLX2 := Lib.hid (hlx.less (K' := [w.heap.size + 1]) fun k hk => by simp at hk; subst hk; exact .inr (.inl hbl))
          have HTT : Hid (M.t (.mk 1 [] 0 A1 cap1 L 0) = R) := Lib.hid (by
            have h5 := HR.out
            rw [List.take_length] at h5
            simp only [M.t, M.ts_map]
            rw [h5, HRD.out]
            rfl)
          have HOP := Lib.hid (pl_open A1 n1 cap1 wr)
          have HSZ := Lib.hid HE.out.size
          have HBL := Lib.hid hbl
          clear hlx hnl hbl
          go_wp2_with (first
            | ((with_reducible refine HOP.out.mono ?_); rintro e w2 ⟨rfl, hE2⟩; have HE2 := Lib.hid hE2; have HBR := Lib.hid (HB.out.ev (HS.out.ev.trans hE2)); obtain ⟨⟨d0, d1, d2, d3, d4⟩, r0, r1, r2, r3, r4⟩ := HBR.out.five; clear hE2))
          (try simp only [Exit.inBlock, Exit.then])
          rw [set5_fold]
          refine bodyPost_ret (results_cell1 rfl _ _ _ _ _ rfl (HBR.out.set5 _ _ _ _ _) Tryz.underlying67 rfl Tryz.sizeTree) rfl ?_
          refine ⟨.mk 1 [] 0 A1 cap1 L 0, by simp only [M.kids, M.kind, M.s, M.n, M.A, M.cap, M.pos]; rw [← HNL.out]; rfl, HTT.out, ?_, (HEW.out.trans HE2.out).box (set5_but _ _ _ _ _ _ _) (by omega)⟩
          exact (((HLX2.out.ev HE2.out)).move (set5_but _ _ _ _ _ _ _) fun k hk => by cases hk).low HSZ.out
end Go.Proofs.YtojbahjebfcmgaaGreatDoor

namespace Go.Proofs.YtojbahjebfcmgaaGreatDoor
open Go.RowKit
set_option linter.unusedVariables false

theorem plan_m {m x : M} {q : List M} (hq : m.kids = x :: q) (hf : pForm m.t = true) : pPlan m.t = pMake (pKind x.s) (q.map M.t) ((q.map M.t).map pPlan) ∧ pErr m.t = firsts (pErrOf (pKind x.s) (q.map M.t) ((q.map M.t).map pErr)) ∧ pFormOf (pKind x.s) (q.map M.t) = true ∧ m.kind = 1 ∧ x.kind = 2 ∧ 1 ≤ q.length := by
  have hf2 := hf
  rw [form_m, hq] at hf2
  simp only [Bool.and_eq_true, beq_iff_eq, decide_eq_true_eq, List.map_cons, at_, List.getD_cons_zero, List.drop_succ_cons, List.drop_zero, M.t_s, atom_m, List.length_cons] at hf2
  obtain ⟨h1, h2, h3, h4⟩ := hf2
  rw [M.t_eq] at hf ⊢
  rw [pPlan, if_pos hf, pErr, if_pos hf, pPlans_map, pErrs_map, hq]
  refine ⟨?_, ?_, h4, h1, h3, by omega⟩
  · simp only [List.map_cons, at_, List.getD_cons_zero, M.t_s, List.drop_succ_cons, List.drop_zero]
  · simp only [List.map_cons, at_, List.getD_cons_zero, M.t_s, List.drop_succ_cons, List.drop_zero]
theorem rd_done {gr base : Nat} {e : Er} {w wz : World} {m : PM} (hr : RdOut gr e w wz) (hg : gr < w.heap.size) (hb : w.heap.size + 2 ≤ base) (hq : Qx base [] wz m) (v0 v1 v2 v3 v4 v5 v6 v7 : Value) : Qx w.heap.size [] (set8 (w.heap.size + 1) v0 v1 v2 v3 v4 v5 v6 v7 wz) m ∧ RdOut gr e w (set8 (w.heap.size + 1) v0 v1 v2 v3 v4 v5 v6 v7 wz) :=
  ⟨(qx_old hq (set8_but _ _ _ _ _ _ _ _ _ _) (fun k hk => by simp at hk; omega)).low (by omega), hr.bx.but (set8_but _ _ _ _ _ _ _ _ _ _) (by simp; omega), hr.but.trans (set8_but _ _ _ _ _ _ _ _ _ _) fun k hk => by simp at hk; exact .inr (by omega)⟩
/-- A tree of the form of a plan, as it lies. -/
structure PlAt (m : M) (gr b0 : Nat) (w : World) (x : M) (q : List M) (b off k c : Nat) : Prop where
  hA : m.A = some ⟨b, off, none⟩
  hn : m.kids.length = k + 2
  hc : m.cap = c + 2
  hkc : k ≤ c
  hcm : c + 2 ≤ 9223372036854775807
  hql : q.length = k + 1
  kid : ∀ i y, m.kids[i]? = some y → ∀ w1, But [gr] w w1 → (w1.cell? ⟨b, off + i * 5, none⟩ = some (.int .i64 y.kind) ∧ w1.cell? ⟨b, off + i * 5 + 1, none⟩ = some (.string ⟨y.s.toArray⟩) ∧ w1.cell? ⟨b, off + i * 5 + 2, none⟩ = some (.int .i64 y.n) ∧ w1.cell? ⟨b, off + i * 5 + 3, none⟩ = some (.slice y.A y.kids.length y.cap) ∧ w1.cell? ⟨b, off + i * 5 + 4, none⟩ = some (.int .i64 (y.pos : Int)))
  rest : ∀ w1, But [gr] w w1 → Ms w1 (some ⟨b, off + 5, none⟩) (k + 1) (c + 1) q
  rng : ∀ w1, But [gr] w w1 → ∀ o, Rng b0 [gr] w1 (some ⟨b, o, none⟩)
  lies : ∀ y ∈ q, ∀ w1, But [gr] w w1 → Lies b0 [gr] w1 y
  bgr : b ≠ gr
theorem pl_at {m x : M} {q : List M} {gr b0 : Nat} {w : World} (hL : Lies b0 [gr] w m) (hq : m.kids = x :: q) (h1 : 1 ≤ q.length) : ∃ b off k c, PlAt m gr b0 w x q b off k c := by
  have hms := hL.ms
  have hlen : m.kids.length = q.length + 1 := by rw [hq]; rfl
  have hcl := hms.le
  have hcm := hms.max
  obtain ⟨b, off, hA, hb, _⟩ := Ms.cell hms (i := 0) (x := x) (by rw [hq]; rfl)
  have hrg : ∀ ad, m.A = some ad → b0 ≤ ad.block ∧ ad.block < w.heap.size ∧ ad.block ∉ [gr] := by
    cases hL with
    | mk a1 a2 a3 => exact a2
  have hr := hrg _ hA
  refine ⟨b, off, q.length - 1, m.cap - 2, hA, by omega, by omega, by omega, by omega, by omega, fun i y hy => kid_third hL hA hy, fun w1 hb1 => ?_, fun w1 hb1 o ad ea => ?_, fun y hy w1 hb1 => ?_, by have := hr.2.2; simpa using this⟩
  · have h2 := hms.but hb1 fun ad e => (hrg ad e).2.2
    rw [hA, hq, show (x :: q).length = (q.length - 1) + 2 by simp; omega, show m.cap = (m.cap - 2) + 2 by omega] at h2
    exact Ms.rest h2
  · cases ea
    exact ⟨hr.1, Nat.lt_of_lt_of_le hr.2.1 hb1.size, hr.2.2⟩
  · exact (hL.kid y (by rw [hq]; exact List.mem_cons_of_mem _ hy)).move hb1 fun _ hz => .inl hz
theorem q_size {m x y : M} {q : List M} (hq : m.kids = x :: q) (hy : y ∈ q) (hfair : m.t.every fairB = true) (hsz : m.t.size ≤ 10000) : y.t.every fairB = true ∧ y.t.size ≤ 10000 := by
  have hym : y ∈ m.kids := by rw [hq]; exact List.mem_cons_of_mem _ hy
  rw [T.every_eq, Bool.and_eq_true] at hfair
  have h7 := T.size_eq m.t
  rw [M.t_kids, List.map_map] at h7
  have h8 := mem_le_sum (List.mem_map.2 ⟨y, hym, rfl⟩ : y.t.size ∈ m.kids.map (T.size ∘ M.t))
  exact ⟨List.all_eq_true.1 hfair.2 y.t (by rw [M.t_kids]; exact List.mem_map.2 ⟨y, hym, rfl⟩), by omega⟩
theorem q_len {m x : M} {q : List M} (hq : m.kids = x :: q) (hsz : m.t.size ≤ 10000) : q.length ≤ 10000 := by
  have h7 := T.size_eq m.t
  have h8 := sum_len m.t.kids
  rw [M.t_kids, List.length_map] at h8
  rw [M.t_kids] at h7
  rw [hq] at h8
  simp only [List.length_cons] at h8
  rw [hq] at h7
  omega

set_option maxRecDepth 100000 in
set_option maxHeartbeats 16000000 in
theorem rd_planTable (m : M) (gr : Nat) (e : Er) (b0 : Nat) (w : World) (hB : Rb gr e w) (hL : Lies b0 [gr] w m) (hfair : m.t.every fairB = true) (hsz : m.t.size ≤ 10000) (hf : pForm m.t = true) (x : M) (q : List M) (hq : m.kids = x :: q) (hs : x.s = bTable)
    (ih : ∀ y ∈ q, ∀ w1 e1, But [gr] w w1 → Rb gr e1 w1 → Calls Tryz.prog 27 #[.pointer (some ⟨gr, 0, none⟩), .agg #[.int .i64 y.kind, .string ⟨y.s.toArray⟩, .int .i64 y.n, .slice y.A y.kids.length y.cap, .int .i64 (y.pos : Int)]] w1 (RdPl gr e1 y.t w1)) :
    Calls Tryz.prog 27 #[.pointer (some ⟨gr, 0, none⟩), .agg #[.int .i64 m.kind, .string ⟨m.s.toArray⟩, .int .i64 m.n, .slice m.A m.kids.length m.cap, .int .i64 (m.pos : Int)]] w (RdPl gr e m.t w) := by
  have hmix : Tryz.prog.follows .mixedOrders = true := by kernel_rfl
  obtain ⟨hpp, hpe, hfo, hm1, hx2, hq1⟩ := plan_m hq hf
  obtain ⟨b, off, k, c, hPA⟩ := pl_at hL hq hq1
  have hgr := hB.lt
  have hHF := fun w1 (hE : Ev w w1) => pl_hasForm m b0 w1 ((hL.ev hE).less fun k hk => by cases hk)
  rw [hf] at hHF
  have HQS := Lib.hid (fun y (hy : y ∈ q) => q_size hq hy hfair hsz)
  have hqn := q_len hq hsz
  have HKC := Lib.hid (fun w1 (hb : But [gr] w w1) => hPA.kid 0 x (by rw [hq]; rfl) w1 hb)
  have HKD := Lib.hid (fun i y (hy : q[i]? = some y) w1 (hb : But [gr] w w1) => hPA.kid (i + 1) y (by rw [hq]; simpa using hy) w1 hb)
  simp only [Nat.zero_mul, Nat.add_zero, hs, hx2] at HKC
  rw [hs] at hpp hpe hfo
  unfold RdPl
  obtain ⟨PT, hPT⟩ : ∃ PT, PT = pPlan m.t := ⟨_, rfl⟩
  obtain ⟨PE, hPE⟩ : ∃ PE, PE = pErr m.t := ⟨_, rfl⟩
  rw [← hPT] at hpp ⊢
  rw [← hPE] at hpe ⊢
  have hA := hPA.hA
  have hn := hPA.hn
  have hc := hPA.hc
  have hkc := hPA.hkc
  have hcm := hPA.hcm
  have hql := hPA.hql
  have HPA := Lib.hid hPA
  clear hPA hPT hPE hq hL hfair hsz hq1 hf hx2
  generalize hk_ : m.kids.length = kn at *
  generalize hA_ : m.A = mA at *
  generalize hc_ : m.cap = mc at *
  generalize hk1_ : m.kind = kd at *
  generalize hs_ : m.s = ms at *
  generalize hn_ : m.n = mn at *
  generalize hp_ : m.pos = mp at *
  clear hk_ hA_ hc_ hk1_ hs_ hn_ hp_
  subst hm1
  subst hA
  subst hn
  subst hc
  obtain ⟨w0, hw0, hE0, hX, hR, hs0⟩ := bx_twoP w (.int .i64 1) (.string ⟨ms.toArray⟩) (.int .i64 mn) (.slice (some ⟨b, off, none⟩) (k + 2) (c + 2)) (.int .i64 (mp : Int))
  have HHF := Lib.hid hHF
  have HX := Lib.hid hX
  have HR := Lib.hid hR
  have HE := Lib.hid hE0
  have HB := Lib.hid hB
  have HIH := Lib.hid ih
  have HS := Lib.hid hs
  have HQL := Lib.hid hql
  have hbgr := HPA.out.bgr
  unfold bTable at *
  obtain ⟨⟨c0, c1, c2, c3, c4⟩, _⟩ := hX.five
  obtain ⟨d0, d1, d2, d3, d4⟩ := HKC.out _ (But.of_ev hE0)
  clear hX hR hE0 hB hHF ih hs
  obtain ⟨y, hy⟩ : ∃ y, q = [y] := by
    have h1 : ((q.map M.t).length == 1 && isAtomT (at_ (q.map M.t) 0)) = true := hfo
    rw [Bool.and_eq_true, beq_iff_eq, List.length_map] at h1
    match q, h1.1 with
    | [y], _ => exact ⟨y, rfl⟩
  subst hy
  obtain rfl : k = 0 := by simpa using hql
  have HPP : Hid (PT = .mk 1 y.s [] [] [] [] [] []) := Lib.hid (by rw [hpp]; show Pl.mk 1 (y.t).s [] [] [] [] [] [] = _; rw [M.t_s])
  have HPE : Hid (PE = firsts [nmErr y.t]) := Lib.hid hpe
  have HN := Lib.hid (fun w1 (hE : Ev w w1) => rd_name gr e y w1 (HB.out.ev hE))
  obtain ⟨y0, y1, y2, y3, y4⟩ := HKD.out 0 y rfl _ (But.of_ev HE.out)
  simp only [Nat.zero_add, Nat.one_mul] at HKD y0 y1 y2 y3 y4
  clear hpp hpe hfo
  go_enter Tryz.func27, Tryz.ntmps27
  go_wp2_with (first
    | ((with_reducible refine (HHF.out _ HE.out).mono ?_); rintro r w1 ⟨rfl, hE1⟩; have E1 := Lib.hid (HE.out.trans hE1); clear c0 c1 c2 c3 c4 d0 d1 d2 d3 d4; obtain ⟨⟨c0, c1, c2, c3, c4⟩, _⟩ := (HX.out.ev hE1).five; obtain ⟨d0, d1, d2, d3, d4⟩ := HKC.out _ (But.of_ev E1.out); clear y0 y1 y2 y3 y4; obtain ⟨y0, y1, y2, y3, y4⟩ := HKD.out 0 y rfl _ (But.of_ev E1.out); simp only [Nat.zero_add, Nat.one_mul] at y0 y1 y2 y3 y4)
    | ((with_reducible refine (HN.out _ E1.out).mono ?_); rintro r w2 ⟨rfl, hRO⟩; have HRO := Lib.hid hRO; obtain ⟨⟨r0, r1, r2, r3, r4, r5, r6, r7⟩, s0, s1, s2, s3, s4, s5, s6, s7⟩ := ((HR.out.ev hE1).but hRO.but (by simp; omega)).eight; clear hRO))
  (try simp only [Exit.inBlock, Exit.then])
  rw [set8_fold]
  have hBR := (HR.out.ev hE1).but HRO.out.but (by simp; omega)
  refine bodyPost_ret (results_cell1 rfl _ _ _ _ _ rfl (hBR.set8 _ _ _ _ _ _ _ _) Tryz.underlying27 rfl Tryz.sizePlan) rfl ?_
  obtain ⟨f1, f2⟩ := rd_done (e := orE e PE) (base := w.heap.size + 2) (⟨by rw [HPE.out, show orE e (firsts [nmErr y.t]) = orE e (nmErr y.t) by unfold firsts; simp only [List.foldl]; rw [orE_skip]]; exact HRO.out.bx, (But.of_ev E1.out).then HRO.out.but⟩) hgr (Nat.le_refl _) (Qx.mk (SleAt.nil ..) (fun _ h => by cases h) (SleAt.nil ..) (SleAt.nil ..) (SleAt.nil ..) (SleAt.nil ..) (SleAt.nil ..) (fun _ h => by cases h)) _ _ _ _ _ _ _ _
  exact ⟨.mk 1 y.s .nil .nil .nil .nil .nil none 0 [], rfl, by rw [HPP.out, PM.p_eq]; rfl, f1, f2⟩

set_option maxRecDepth 100000 in
set_option maxHeartbeats 16000000 in
theorem rd_planUnion (m : M) (gr : Nat) (e : Er) (b0 : Nat) (w : World) (hB : Rb gr e w) (hL : Lies b0 [gr] w m) (hfair : m.t.every fairB = true) (hsz : m.t.size ≤ 10000) (hf : pForm m.t = true) (x : M) (q : List M) (hq : m.kids = x :: q) (hs : x.s = bUnion)
    (ih : ∀ y ∈ q, ∀ w1 e1, But [gr] w w1 → Rb gr e1 w1 → Calls Tryz.prog 27 #[.pointer (some ⟨gr, 0, none⟩), .agg #[.int .i64 y.kind, .string ⟨y.s.toArray⟩, .int .i64 y.n, .slice y.A y.kids.length y.cap, .int .i64 (y.pos : Int)]] w1 (RdPl gr e1 y.t w1)) :
    Calls Tryz.prog 27 #[.pointer (some ⟨gr, 0, none⟩), .agg #[.int .i64 m.kind, .string ⟨m.s.toArray⟩, .int .i64 m.n, .slice m.A m.kids.length m.cap, .int .i64 (m.pos : Int)]] w (RdPl gr e m.t w) := by
  have hmix : Tryz.prog.follows .mixedOrders = true := by kernel_rfl
  obtain ⟨hpp, hpe, hfo, hm1, hx2, hq1⟩ := plan_m hq hf
  obtain ⟨b, off, k, c, hPA⟩ := pl_at hL hq hq1
  have hgr := hB.lt
  have hHF := fun w1 (hE : Ev w w1) => pl_hasForm m b0 w1 ((hL.ev hE).less fun k hk => by cases hk)
  rw [hf] at hHF
  have HQS := Lib.hid (fun y (hy : y ∈ q) => q_size hq hy hfair hsz)
  have hqn := q_len hq hsz
  have HKC := Lib.hid (fun w1 (hb : But [gr] w w1) => hPA.kid 0 x (by rw [hq]; rfl) w1 hb)
  have HKD := Lib.hid (fun i y (hy : q[i]? = some y) w1 (hb : But [gr] w w1) => hPA.kid (i + 1) y (by rw [hq]; simpa using hy) w1 hb)
  simp only [Nat.zero_mul, Nat.add_zero, hs, hx2] at HKC
  rw [hs] at hpp hpe hfo
  unfold RdPl
  obtain ⟨PT, hPT⟩ : ∃ PT, PT = pPlan m.t := ⟨_, rfl⟩
  obtain ⟨PE, hPE⟩ : ∃ PE, PE = pErr m.t := ⟨_, rfl⟩
  rw [← hPT] at hpp ⊢
  rw [← hPE] at hpe ⊢
  have hA := hPA.hA
  have hn := hPA.hn
  have hc := hPA.hc
  have hkc := hPA.hkc
  have hcm := hPA.hcm
  have hql := hPA.hql
  have HPA := Lib.hid hPA
  clear hPA hPT hPE hq hL hfair hsz hq1 hf hx2
  generalize hk_ : m.kids.length = kn at *
  generalize hA_ : m.A = mA at *
  generalize hc_ : m.cap = mc at *
  generalize hk1_ : m.kind = kd at *
  generalize hs_ : m.s = ms at *
  generalize hn_ : m.n = mn at *
  generalize hp_ : m.pos = mp at *
  clear hk_ hA_ hc_ hk1_ hs_ hn_ hp_
  subst hm1
  subst hA
  subst hn
  subst hc
  obtain ⟨w0, hw0, hE0, hX, hR, hs0⟩ := bx_twoP w (.int .i64 1) (.string ⟨ms.toArray⟩) (.int .i64 mn) (.slice (some ⟨b, off, none⟩) (k + 2) (c + 2)) (.int .i64 (mp : Int))
  have HHF := Lib.hid hHF
  have HX := Lib.hid hX
  have HR := Lib.hid hR
  have HE := Lib.hid hE0
  have HB := Lib.hid hB
  have HIH := Lib.hid ih
  have HS := Lib.hid hs
  have HQL := Lib.hid hql
  have hbgr := HPA.out.bgr
  unfold bUnion at *
  obtain ⟨⟨c0, c1, c2, c3, c4⟩, _⟩ := hX.five
  obtain ⟨d0, d1, d2, d3, d4⟩ := HKC.out _ (But.of_ev hE0)
  clear hX hR hE0 hB hHF ih hs
  have hk2 : q.length = 2 := by
    have h1 : ((q.map M.t).length == 2) = true := hfo
    rw [beq_iff_eq, List.length_map] at h1
    exact h1
  obtain rfl : k = 1 := by omega
  have HPP : Hid (PT = .mk 5 [] [] [] [] [] [] (q.map fun y => pPlan y.t)) := Lib.hid (by rw [hpp]; show Pl.mk 5 [] [] [] [] [] [] ((q.map M.t).map pPlan) = _; rw [List.map_map]; rfl)
  have HPE : Hid (PE = firsts (q.map fun y => pErr y.t)) := Lib.hid (by rw [hpe]; show firsts ((q.map M.t).map pErr) = _; rw [List.map_map]; rfl)
  have HPS := Lib.hid (fun w1 (hE : Ev w w1) => rd_plans gr e q _ _ _ b0 w1 (HB.out.ev hE) (HPA.out.rest w1 (But.of_ev hE)) (HPA.out.rng w1 (But.of_ev hE) _) (by omega) (fun y hy w2 e2 hb hB2 => HIH.out y hy w2 e2 ((But.of_ev hE).then hb) hB2))
  unfold Sle.v at HPS
  clear hpp hpe hfo
  go_enter Tryz.func27, Tryz.ntmps27
  go_wp2_with (first
    | ((with_reducible refine (HHF.out _ HE.out).mono ?_); rintro r w1 ⟨rfl, hE1⟩; have E1 := Lib.hid (HE.out.trans hE1); clear c0 c1 c2 c3 c4 d0 d1 d2 d3 d4; obtain ⟨⟨c0, c1, c2, c3, c4⟩, _⟩ := (HX.out.ev hE1).five; obtain ⟨d0, d1, d2, d3, d4⟩ := HKC.out _ (But.of_ev E1.out))
    | ((with_reducible refine (HPS.out _ E1.out).mono ?_); rintro r w2 ⟨X, rfl, hXl, hXs, hXq, hRO⟩; have HRO := Lib.hid hRO; have HXL := Lib.hid hXl; have HXS := Lib.hid hXs; have HXQ := Lib.hid hXq; obtain ⟨⟨r0, r1, r2, r3, r4, r5, r6, r7⟩, s0, s1, s2, s3, s4, s5, s6, s7⟩ := ((HR.out.ev hE1).but hRO.but (by simp; omega)).eight; clear hRO hXl hXs hXq))
  (try simp only [Exit.inBlock, Exit.then])
  rw [set8_fold]
  have hBR := (HR.out.ev hE1).but HRO.out.but (by simp; omega)
  refine bodyPost_ret (results_cell1 rfl _ _ _ _ _ rfl (hBR.set8 _ _ _ _ _ _ _ _) Tryz.underlying27 rfl Tryz.sizePlan) rfl ?_
  obtain ⟨f1, f2⟩ := rd_done (e := orE e PE) (base := w1.heap.size) (⟨by rw [HPE.out]; exact HRO.out.bx, (But.of_ev E1.out).then HRO.out.but⟩) hgr (by have := hE1.size; omega) (Qx.mk (SleAt.nil ..) (fun _ h => by cases h) (SleAt.nil ..) (SleAt.nil ..) (SleAt.nil ..) (SleAt.nil ..) HXS.out HXQ.out) _ _ _ _ _ _ _ _
  exact ⟨.mk 5 [] .nil .nil .nil .nil .nil X.A X.cap X.l, rfl, by rw [HPP.out, PM.p_eq, ← HXL.out]; rfl, f1, f2⟩

set_option maxRecDepth 100000 in
set_option maxHeartbeats 16000000 in
theorem rd_planDistinct (m : M) (gr : Nat) (e : Er) (b0 : Nat) (w : World) (hB : Rb gr e w) (hL : Lies b0 [gr] w m) (hfair : m.t.every fairB = true) (hsz : m.t.size ≤ 10000) (hf : pForm m.t = true) (x : M) (q : List M) (hq : m.kids = x :: q) (hs : x.s = bDistinct)
    (ih : ∀ y ∈ q, ∀ w1 e1, But [gr] w w1 → Rb gr e1 w1 → Calls Tryz.prog 27 #[.pointer (some ⟨gr, 0, none⟩), .agg #[.int .i64 y.kind, .string ⟨y.s.toArray⟩, .int .i64 y.n, .slice y.A y.kids.length y.cap, .int .i64 (y.pos : Int)]] w1 (RdPl gr e1 y.t w1)) :
    Calls Tryz.prog 27 #[.pointer (some ⟨gr, 0, none⟩), .agg #[.int .i64 m.kind, .string ⟨m.s.toArray⟩, .int .i64 m.n, .slice m.A m.kids.length m.cap, .int .i64 (m.pos : Int)]] w (RdPl gr e m.t w) := by
  have hmix : Tryz.prog.follows .mixedOrders = true := by kernel_rfl
  obtain ⟨hpp, hpe, hfo, hm1, hx2, hq1⟩ := plan_m hq hf
  obtain ⟨b, off, k, c, hPA⟩ := pl_at hL hq hq1
  have hgr := hB.lt
  have hHF := fun w1 (hE : Ev w w1) => pl_hasForm m b0 w1 ((hL.ev hE).less fun k hk => by cases hk)
  rw [hf] at hHF
  have HQS := Lib.hid (fun y (hy : y ∈ q) => q_size hq hy hfair hsz)
  have hqn := q_len hq hsz
  have HKC := Lib.hid (fun w1 (hb : But [gr] w w1) => hPA.kid 0 x (by rw [hq]; rfl) w1 hb)
  have HKD := Lib.hid (fun i y (hy : q[i]? = some y) w1 (hb : But [gr] w w1) => hPA.kid (i + 1) y (by rw [hq]; simpa using hy) w1 hb)
  simp only [Nat.zero_mul, Nat.add_zero, hs, hx2] at HKC
  rw [hs] at hpp hpe hfo
  unfold RdPl
  obtain ⟨PT, hPT⟩ : ∃ PT, PT = pPlan m.t := ⟨_, rfl⟩
  obtain ⟨PE, hPE⟩ : ∃ PE, PE = pErr m.t := ⟨_, rfl⟩
  rw [← hPT] at hpp ⊢
  rw [← hPE] at hpe ⊢
  have hA := hPA.hA
  have hn := hPA.hn
  have hc := hPA.hc
  have hkc := hPA.hkc
  have hcm := hPA.hcm
  have hql := hPA.hql
  have HPA := Lib.hid hPA
  clear hPA hPT hPE hq hL hfair hsz hq1 hf hx2
  generalize hk_ : m.kids.length = kn at *
  generalize hA_ : m.A = mA at *
  generalize hc_ : m.cap = mc at *
  generalize hk1_ : m.kind = kd at *
  generalize hs_ : m.s = ms at *
  generalize hn_ : m.n = mn at *
  generalize hp_ : m.pos = mp at *
  clear hk_ hA_ hc_ hk1_ hs_ hn_ hp_
  subst hm1
  subst hA
  subst hn
  subst hc
  obtain ⟨w0, hw0, hE0, hX, hR, hs0⟩ := bx_twoP w (.int .i64 1) (.string ⟨ms.toArray⟩) (.int .i64 mn) (.slice (some ⟨b, off, none⟩) (k + 2) (c + 2)) (.int .i64 (mp : Int))
  have HHF := Lib.hid hHF
  have HX := Lib.hid hX
  have HR := Lib.hid hR
  have HE := Lib.hid hE0
  have HB := Lib.hid hB
  have HIH := Lib.hid ih
  have HS := Lib.hid hs
  have HQL := Lib.hid hql
  have hbgr := HPA.out.bgr
  unfold bDistinct at *
  obtain ⟨⟨c0, c1, c2, c3, c4⟩, _⟩ := hX.five
  obtain ⟨d0, d1, d2, d3, d4⟩ := HKC.out _ (But.of_ev hE0)
  clear hX hR hE0 hB hHF ih hs
  have hk2 : q.length = 1 := by
    have h1 : ((q.map M.t).length == 1) = true := hfo
    rw [beq_iff_eq, List.length_map] at h1
    exact h1
  obtain rfl : k = 0 := by omega
  have HPP : Hid (PT = .mk 6 [] [] [] [] [] [] (q.map fun y => pPlan y.t)) := Lib.hid (by rw [hpp]; show Pl.mk 6 [] [] [] [] [] [] ((q.map M.t).map pPlan) = _; rw [List.map_map]; rfl)
  have HPE : Hid (PE = firsts (q.map fun y => pErr y.t)) := Lib.hid (by rw [hpe]; show firsts ((q.map M.t).map pErr) = _; rw [List.map_map]; rfl)
  have HPS := Lib.hid (fun w1 (hE : Ev w w1) => rd_plans gr e q _ _ _ b0 w1 (HB.out.ev hE) (HPA.out.rest w1 (But.of_ev hE)) (HPA.out.rng w1 (But.of_ev hE) _) (by omega) (fun y hy w2 e2 hb hB2 => HIH.out y hy w2 e2 ((But.of_ev hE).then hb) hB2))
  unfold Sle.v at HPS
  clear hpp hpe hfo
  go_enter Tryz.func27, Tryz.ntmps27
  go_wp2_with (first
    | ((with_reducible refine (HHF.out _ HE.out).mono ?_); rintro r w1 ⟨rfl, hE1⟩; have E1 := Lib.hid (HE.out.trans hE1); clear c0 c1 c2 c3 c4 d0 d1 d2 d3 d4; obtain ⟨⟨c0, c1, c2, c3, c4⟩, _⟩ := (HX.out.ev hE1).five; obtain ⟨d0, d1, d2, d3, d4⟩ := HKC.out _ (But.of_ev E1.out))
    | ((with_reducible refine (HPS.out _ E1.out).mono ?_); rintro r w2 ⟨X, rfl, hXl, hXs, hXq, hRO⟩; have HRO := Lib.hid hRO; have HXL := Lib.hid hXl; have HXS := Lib.hid hXs; have HXQ := Lib.hid hXq; obtain ⟨⟨r0, r1, r2, r3, r4, r5, r6, r7⟩, s0, s1, s2, s3, s4, s5, s6, s7⟩ := ((HR.out.ev hE1).but hRO.but (by simp; omega)).eight; clear hRO hXl hXs hXq))
  (try simp only [Exit.inBlock, Exit.then])
  rw [set8_fold]
  have hBR := (HR.out.ev hE1).but HRO.out.but (by simp; omega)
  refine bodyPost_ret (results_cell1 rfl _ _ _ _ _ rfl (hBR.set8 _ _ _ _ _ _ _ _) Tryz.underlying27 rfl Tryz.sizePlan) rfl ?_
  obtain ⟨f1, f2⟩ := rd_done (e := orE e PE) (base := w1.heap.size) (⟨by rw [HPE.out]; exact HRO.out.bx, (But.of_ev E1.out).then HRO.out.but⟩) hgr (by have := hE1.size; omega) (Qx.mk (SleAt.nil ..) (fun _ h => by cases h) (SleAt.nil ..) (SleAt.nil ..) (SleAt.nil ..) (SleAt.nil ..) HXS.out HXQ.out) _ _ _ _ _ _ _ _
  exact ⟨.mk 6 [] .nil .nil .nil .nil .nil X.A X.cap X.l, rfl, by rw [HPP.out, PM.p_eq, ← HXL.out]; rfl, f1, f2⟩

end Go.Proofs.YtojbahjebfcmgaaGreatDoor

namespace Go.Proofs.YtojbahjebfcmgaaGreatDoor
open Go.RowKit
set_option linter.unusedVariables false

theorem Ms.drop {w : World} {b off n cap k : Nat} {l : List M} (h : Ms w (some ⟨b, off, none⟩) n cap l) (hk : k < n) : Ms w (some ⟨b, off + k * 5, none⟩) (n - k) (cap - k) (l.drop k) := by
  have hl := h.len
  have hle := h.le
  refine ⟨by rw [List.length_drop]; omega, by omega, by have := h.max; omega, (fun e => by cases e), fun _ => ?_⟩
  obtain ⟨b', off', e, hlt, hc⟩ := h.rd (by omega)
  injection e with e
  injection e with e1 e2 _
  subst e1; subst e2
  refine ⟨b, off + k * 5, rfl, hlt, fun i y hy j u hu => ?_⟩
  have := hc (k + i) y (by rw [← hy, List.getElem?_drop]) j u hu
  rwa [show off + (k + i) * 5 + j = off + k * 5 + i * 5 + j by rw [Nat.add_mul]; omega] at this

set_option maxRecDepth 100000 in
set_option maxHeartbeats 16000000 in
theorem rd_planProject (m : M) (gr : Nat) (e : Er) (b0 : Nat) (w : World) (hB : Rb gr e w) (hL : Lies b0 [gr] w m) (hfair : m.t.every fairB = true) (hsz : m.t.size ≤ 10000) (hf : pForm m.t = true) (x : M) (q : List M) (hq : m.kids = x :: q) (hs : x.s = bProject)
    (ih : ∀ y ∈ q, ∀ w1 e1, But [gr] w w1 → Rb gr e1 w1 → Calls Tryz.prog 27 #[.pointer (some ⟨gr, 0, none⟩), .agg #[.int .i64 y.kind, .string ⟨y.s.toArray⟩, .int .i64 y.n, .slice y.A y.kids.length y.cap, .int .i64 (y.pos : Int)]] w1 (RdPl gr e1 y.t w1)) :
    Calls Tryz.prog 27 #[.pointer (some ⟨gr, 0, none⟩), .agg #[.int .i64 m.kind, .string ⟨m.s.toArray⟩, .int .i64 m.n, .slice m.A m.kids.length m.cap, .int .i64 (m.pos : Int)]] w (RdPl gr e m.t w) := by
  have hmix : Tryz.prog.follows .mixedOrders = true := by kernel_rfl
  obtain ⟨hpp, hpe, hfo, hm1, hx2, hq1⟩ := plan_m hq hf
  obtain ⟨b, off, k, c, hPA⟩ := pl_at hL hq hq1
  have hgr := hB.lt
  have hHF := fun w1 (hE : Ev w w1) => pl_hasForm m b0 w1 ((hL.ev hE).less fun k hk => by cases hk)
  rw [hf] at hHF
  have HQS := Lib.hid (fun y (hy : y ∈ q) => q_size hq hy hfair hsz)
  have hqn := q_len hq hsz
  have HKC := Lib.hid (fun w1 (hb : But [gr] w w1) => hPA.kid 0 x (by rw [hq]; rfl) w1 hb)
  have HKD := Lib.hid (fun i y (hy : q[i]? = some y) w1 (hb : But [gr] w w1) => hPA.kid (i + 1) y (by rw [hq]; simpa using hy) w1 hb)
  simp only [Nat.zero_mul, Nat.add_zero, hs, hx2] at HKC
  rw [hs] at hpp hpe hfo
  unfold RdPl
  obtain ⟨PT, hPT⟩ : ∃ PT, PT = pPlan m.t := ⟨_, rfl⟩
  obtain ⟨PE, hPE⟩ : ∃ PE, PE = pErr m.t := ⟨_, rfl⟩
  rw [← hPT] at hpp ⊢
  rw [← hPE] at hpe ⊢
  have hA := hPA.hA
  have hn := hPA.hn
  have hc := hPA.hc
  have hkc := hPA.hkc
  have hcm := hPA.hcm
  have hql := hPA.hql
  have HPA := Lib.hid hPA
  clear hPA hPT hPE hq hL hfair hsz hq1 hf hx2
  generalize hk_ : m.kids.length = kn at *
  generalize hA_ : m.A = mA at *
  generalize hc_ : m.cap = mc at *
  generalize hk1_ : m.kind = kd at *
  generalize hs_ : m.s = ms at *
  generalize hn_ : m.n = mn at *
  generalize hp_ : m.pos = mp at *
  clear hk_ hA_ hc_ hk1_ hs_ hn_ hp_
  subst hm1
  subst hA
  subst hn
  subst hc
  obtain ⟨w0, hw0, hE0, hX, hR, hs0⟩ := bx_twoP w (.int .i64 1) (.string ⟨ms.toArray⟩) (.int .i64 mn) (.slice (some ⟨b, off, none⟩) (k + 2) (c + 2)) (.int .i64 (mp : Int))
  have HHF := Lib.hid hHF
  have HX := Lib.hid hX
  have HR := Lib.hid hR
  have HE := Lib.hid hE0
  have HB := Lib.hid hB
  have HIH := Lib.hid ih
  have HS := Lib.hid hs
  have HQL := Lib.hid hql
  have hbgr := HPA.out.bgr
  unfold bProject at *
  obtain ⟨⟨c0, c1, c2, c3, c4⟩, _⟩ := hX.five
  obtain ⟨d0, d1, d2, d3, d4⟩ := HKC.out _ (But.of_ev hE0)
  clear hX hR hE0 hB hHF ih hs
  have hfo2 : (decide (2 ≤ (q.map M.t).length) && ((q.map M.t).take ((q.map M.t).length - 1)).all isColT) = true := hfo
  rw [Bool.and_eq_true, decide_eq_true_eq, List.length_map, hql, Nat.add_sub_cancel, ← List.map_take, List.all_map, List.all_eq_true] at hfo2
  obtain ⟨hk1, hcol⟩ := hfo2
  have HPP : Hid (PT = .mk 3 [] ((q.take k).map fun y => colE y.t) ((q.take k).map fun y => colN y.t) [] [] [] ((q.drop k).map fun y => pPlan y.t)) := Lib.hid (by
    rw [hpp]
    show Pl.mk 3 [] (((q.map M.t).take ((q.map M.t).length - 1)).map colE) (((q.map M.t).take ((q.map M.t).length - 1)).map colN) [] [] [] (((q.map M.t).map pPlan).drop ((q.map M.t).length - 1)) = _
    rw [List.length_map, hql, Nat.add_sub_cancel, ← List.map_take, List.map_map, List.map_map, List.map_map, ← List.map_drop]
    rfl)
  have HPE : Hid (PE = firsts (((q.take k).flatMap fun y => colErrs y.t) ++ (q.drop k).map fun y => pErr y.t)) := Lib.hid (by
    rw [hpe]
    show firsts (((q.map M.t).take ((q.map M.t).length - 1)).flatMap colErrs ++ ((q.map M.t).map pErr).drop ((q.map M.t).length - 1)) = _
    rw [List.length_map, hql, Nat.add_sub_cancel, ← List.map_take, List.map_map, ← List.map_drop, List.flatMap_map]
    rfl)
  have HCO := Lib.hid (fun w1 (hE : Ev w w1) => rd_columns gr e (q.take k) _ _ _ b0 w1 (HB.out.ev hE) ((HPA.out.rest w1 (But.of_ev hE)).to k (by omega)) (HPA.out.rng w1 (But.of_ev hE) _) (by omega) (fun y hy => hcol y hy) (fun y hy => HPA.out.lies y (List.mem_of_mem_take hy) w1 (But.of_ev hE)) (fun y hy => (HQS.out y (List.mem_of_mem_take hy)).1) (fun y hy => by have := (HQS.out y (List.mem_of_mem_take hy)).2; omega))
  have HPS := Lib.hid (fun e1 w1 (hb : But [gr] w w1) (hB1 : Rb gr e1 w1) => rd_plans gr e1 (q.drop k) _ _ _ b0 w1 hB1 ((HPA.out.rest w1 hb).drop (k := k) (by omega)) (HPA.out.rng w1 hb _) (by omega) (fun y hy w2 e2 hb2 hB2 => HIH.out y (List.mem_of_mem_drop hy) w2 e2 (hb.then hb2) hB2))
  unfold Sle.v at HCO HPS
  simp only [Nat.add_sub_cancel_left] at HPS
  have i1 : (0 : Int) ≤ (k : Int) := by omega
  have i2 : (k : Int) ≤ (c : Int) + 1 := by omega
  have i3 : (k : Int) ≤ (k : Int) + 1 := by omega
  have i4 : ¬ c + 1 = k := by omega
  clear hpp hpe hfo
  go_enter Tryz.func27, Tryz.ntmps27
  go_wp2_with (first
    | ((with_reducible refine (HHF.out _ HE.out).mono ?_); rintro r w1 ⟨rfl, hE1⟩; have E1 := Lib.hid (HE.out.trans hE1); clear c0 c1 c2 c3 c4 d0 d1 d2 d3 d4; obtain ⟨⟨c0, c1, c2, c3, c4⟩, _⟩ := (HX.out.ev hE1).five; obtain ⟨d0, d1, d2, d3, d4⟩ := HKC.out _ (But.of_ev E1.out))
    | ((with_reducible refine (HCO.out _ E1.out).mono ?_); rintro r w2 ⟨N, X, rfl, hNl, hXl, hNs, hXs, hXx, hRO⟩; have HRO := Lib.hid hRO; have HNL := Lib.hid hNl; have HXL := Lib.hid hXl; have HNS := Lib.hid hNs; have HXS := Lib.hid hXs; have HXX := Lib.hid hXx; clear hRO hNl hXl hNs hXs hXx)
    | ((with_reducible refine (HPS.out _ _ ((But.of_ev E1.out).then HRO.out.but) HRO.out.bx).mono ?_); rintro r w3 ⟨Y, rfl, hYl, hYs, hYq, hRO3⟩; have HRO3 := Lib.hid hRO3; have HYL := Lib.hid hYl; have HYS := Lib.hid hYs; have HYQ := Lib.hid hYq; obtain ⟨⟨r0, r1, r2, r3, r4, r5, r6, r7⟩, s0, s1, s2, s3, s4, s5, s6, s7⟩ := ((HR.out.ev hE1).but (HRO.out.but.then hRO3.but) (by simp; omega)).eight; clear hRO3 hYl hYs hYq))
  have hw12 := HRO.out.but.size
  have hg1 : ∀ z ∈ [gr], z < w1.heap.size := fun z hz => by simp at hz; have := hE1.size; omega
  (try simp only [Exit.inBlock, Exit.then])
  rw [set8_fold]
  have hBR := (HR.out.ev hE1).but (HRO.out.but.then HRO3.out.but) (by simp; omega)
  refine bodyPost_ret (results_cell1 rfl _ _ _ _ _ rfl (hBR.set8 _ _ _ _ _ _ _ _) Tryz.underlying27 rfl Tryz.sizePlan) rfl ?_
  obtain ⟨f1, f2⟩ := rd_done (e := orE e PE) (base := w1.heap.size) (⟨by rw [HPE.out, ← firsts_append]; exact HRO3.out.bx, (But.of_ev E1.out).then (HRO.out.but.then HRO3.out.but)⟩) hgr (by have := hE1.size; omega) (Qx.mk (sle_old HXS.out HRO3.out.but hg1) (fun z hz => lx_old (HXX.out z hz) HRO3.out.but hg1) (sle_old HNS.out HRO3.out.but hg1) (SleAt.nil ..) (SleAt.nil ..) (SleAt.nil ..) (HYS.out.low hw12) (fun z hz => (HYQ.out z hz).low hw12)) _ _ _ _ _ _ _ _
  exact ⟨.mk 3 [] X N .nil .nil .nil Y.A Y.cap Y.l, rfl, by rw [HPP.out, PM.p_eq, ← HXL.out, ← HNL.out, ← HYL.out]; rfl, f1, f2⟩

end Go.Proofs.YtojbahjebfcmgaaGreatDoor
