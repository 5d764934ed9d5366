/-
  Texts that belong together: An expression's tree printed: not empty, not long, of numbers of 64 bits; what is told of a tree that stands for no expression. Plain facts. Package expr: the tree of an expression.
-/
import Derived.Test.YtojbahjebfcmgaaGreatDoorZ23W
import Derived.Test.YtojbahjebfcmgaaGreatDoorZ22W
import Derived.Test.YtojbahjebfcmgaaGreatDoorZ17W
namespace Go.Proofs.YtojbahjebfcmgaaGreatDoor
open Go.RowKit
set_option linter.unusedVariables false

theorem name_len {s : By} (h : xName s = true) : 1 ≤ s.length ∧ s.length ≤ 12 := by
  unfold xName nameV at h
  simp only [Bool.and_eq_true, decide_eq_true_eq] at h
  have : (bstr s).size = s.length := by simp [bstr, ByteArray.size]
  omega
theorem quote_len : ∀ l : By, (l.flatMap showB).length ≤ 3 * l.length
  | [] => by simp
  | c :: l => by
    have h1 : (showB c).length ≤ 3 := by unfold showB; split <;> simp
    have := quote_len l
    simp only [List.flatMap_cons, List.length_append, List.length_cons]
    omega
theorem show_len {s : By} (h : s.length ≤ 40) : 1 ≤ (showV 2 0 ⟨s.toArray⟩).length ∧ (showV 2 0 ⟨s.toArray⟩).length ≤ 122 := by
  have hr : rightV 2 0 ⟨s.toArray⟩ = true := by simp [rightV, ByteArray.size, h]
  have hq := quote_len s
  have e : showV 2 0 ⟨s.toArray⟩ = quoteB s := by simp [showV, hr]
  rw [e]
  unfold quoteB
  rw [List.length_cons, List.length_append]
  simp only [List.length_cons, List.length_nil]
  omega
theorem printL_len : ∀ (l : List T) (b : Bool), (printL b l).length ≤ (l.map fun t => (printS t).length + 1).sum
  | [], b => by simp [printL]
  | t :: l, b => by
    have := printL_len l false
    unfold printL
    cases b <;> simp <;> omega
mutual
theorem fits_fair : ∀ t : T, t.every fairB = true → fitsS t = true
  | .mk k s n l p, h => by
    rw [T.every, Bool.and_eq_true] at h
    have h1 := (fairB_of h.1).1
    have h2 := fits_fairs l h.2
    unfold i64R at h1
    simp only [fitsS, h2, Bool.and_true, Bool.and_eq_true, decide_eq_true_eq]
    exact h1
theorem fits_fairs : ∀ l : List T, T.everys fairB l = true → fitsAll l = true
  | [], _ => rfl
  | a :: l, h => by
    rw [T.everys, Bool.and_eq_true] at h
    simp only [fitsAll, fits_fair a h.1, fits_fairs l h.2, Bool.and_self]
end
end Go.Proofs.YtojbahjebfcmgaaGreatDoor

namespace Go.Proofs.YtojbahjebfcmgaaGreatDoor
open Go.RowKit
set_option linter.unusedVariables false

theorem bx_tr (w : World) (c0 c1 c2 c3 : Value) : ∃ w0, (w.alloc (.cells #[c0, c1, c2, c3] 57)).alloc (.cells #[.int .i64 0, .string ⟨#[]⟩, .int .i64 0, .slice none 0 0, .int .i64 0] 67) = w0 ∧ Ev w w0 ∧ Bx 57 w.heap.size #[c0, c1, c2, c3] w0 ∧ Bx 67 (w.heap.size + 1) #[.int .i64 0, .string ⟨#[]⟩, .int .i64 0, .slice none 0 0, .int .i64 0] w0 := by
  have hB : Bx 67 (w.heap.size + 1) #[.int .i64 0, .string ⟨#[]⟩, .int .i64 0, .slice none 0 0, .int .i64 0] ((w.alloc (.cells #[c0, c1, c2, c3] 57)).alloc (.cells #[.int .i64 0, .string ⟨#[]⟩, .int .i64 0, .slice none 0 0, .int .i64 0] 67)) := by
    have := Bx.new 67 #[.int .i64 0, .string ⟨#[]⟩, .int .i64 0, .slice none 0 0, .int .i64 0] (w.alloc (.cells #[c0, c1, c2, c3] 57))
    simpa using this
  exact ⟨_, rfl, (Ev.alloc w _).trans (Ev.alloc _ _), (Bx.new 57 #[c0, c1, c2, c3] w).ev (Ev.alloc _ _), hB⟩
/-- The Kids so far. -/
structure KdSt (w0 : World) (A : Option Addr) (n cap : Nat) (L : List M) (w : World) : Prop where
  own : Ow 67 5 mc w0.heap.size w (.slice A n cap) L
  len : L.length = n
  lies : ∀ x ∈ L, Lies w0.heap.size (foot (.slice A n cap)) w x
  ev : Ev w0 w
theorem KdSt.next {w0 wr wq w2 : World} {n cap : Nat} {A : Option Addr} {L : List M} {x : M} {v2 : Value} (h : KdSt w0 A n cap L wr) (hE : Ev wr wq) (hx : Lies wr.heap.size [] wq x) (hA : AppSt 67 5 mc w0.heap.size wq (.slice A n cap) (L ++ [x]) v2 w2) :
    ∃ A2 cap2, v2 = .slice A2 (n + 1) cap2 ∧ KdSt w0 A2 (n + 1) cap2 (L ++ [x]) w2 := by
  obtain ⟨ho, hb, hs⟩ := hA
  obtain ⟨A2, cap2, rfl, hSl, hAd⟩ := ho.form encM
  have hl : (L ++ [x]).length = n + 1 := by rw [List.length_append, h.len]; rfl
  rw [hl] at ho hs hSl hAd ⊢
  refine ⟨A2, cap2, rfl, ho, hl, fun y hy => ?_, ?_⟩
  · have hy2 : Lies w0.heap.size (foot (.slice A n cap)) wq y := by
      rcases List.mem_append.1 hy with h1 | h1
      · exact (h.lies y h1).ev hE
      · simp at h1
        subst h1
        refine (hx.less fun k hk => .inr (.inl ?_)).low h.ev.size
        exact (h.own.lt (mem_foot.1 hk)).2
    exact hy2.move hb fun k hk => by
      rcases hs k (mem_foot.1 hk) with h1 | h1
      · exact .inl (mem_foot.2 h1)
      · exact .inr (.inr h1)
  · exact ((But.of_ev (h.ev.trans hE)).then hb).ev fun k hk => by have := (h.own.lt (mem_foot.1 hk)).1; omega
theorem KdSt.done {w0 w : World} {n cap : Nat} {A : Option Addr} {L : List M} (h : KdSt w0 A n cap L w) : Lies w0.heap.size [] w (.mk 1 [] 0 A cap L 0) ∧ n = L.length := by
  obtain ⟨A2, cap2, hv, hSl, hAd⟩ := h.own.form encM
  injection hv with h1 h2 h3
  subst h1; subst h3
  refine ⟨.mk hSl (fun ad e => ⟨(hAd ad e).2.1, (hAd ad e).2.2.1, by simp⟩) (fun k hk => (h.lies k hk).less (fun x hx => (by cases hx))), h2⟩
theorem lies_leaf (b : Nat) (K : List Nat) (w : World) (k : Int) (s : By) (n : Int) (p : Nat) : Lies b K w (.mk k s n none 0 [] p) := .mk (Sl.nil_ w) (fun _ h => by cases h) (fun _ h => by cases h)
theorem xTree_m (m : M) : xTree m.t = if m.kind == 1 then .mk 2 m.s 0 [] 0 else if m.kind == 2 then .mk 3 [] m.n [] 0 else if m.kind == 3 then .mk 4 m.s 0 [] 0 else .mk 1 [] 0 (.mk 2 m.s 0 [] 0 :: m.kids.map fun x => xTree x.t) 0 := by
  rw [M.t_eq, xTree, xTrees_map, List.map_map]
  rfl

set_option maxRecDepth 100000 in
set_option maxHeartbeats 8000000 in
theorem ex_tree (N : Nat) : ∀ (m : M) (b0 : Nat) (w : World), m.dep ≤ N → Lx b0 [] w m → xRight m.t = true →
    Calls Tryz.prog 170 #[ev_ m] w (TrOut (xTree m.t) w) := by
  induction N with
  | zero =>
    intro m b0 w hd
    rw [M.dep_eq] at hd
    omega
  | succ N ih =>
    intro m b0 w hd hL hr
    obtain ⟨hf, hkr⟩ := xRight_p hr
    have hke := xTree_m m
    have HIH := Lib.hid ih
    have HL := Lib.hid hL
    have HKR := Lib.hid hkr
    have HD := Lib.hid hd
    have hes := hL.es
    obtain ⟨ms, hms⟩ : ∃ ms, ms = m.s := ⟨_, rfl⟩
    obtain ⟨kn, hkn⟩ : ∃ kn, kn = m.kids.length := ⟨_, rfl⟩
    unfold ev_
    unfold M.kv
    rw [← hkn] at hf hes ⊢
    rw [← hms] at hke ⊢
    have HKN := Lib.hid hkn
    generalize m.A = mA at *
    generalize m.cap = mcap at *
    have HES := Lib.hid hes
    have hkc := hes.le
    have hkm := hes.max
    obtain ⟨R, hR⟩ : ∃ R, R = xTree m.t := ⟨_, rfl⟩
    rw [← hR] at hke ⊢
    clear ih hL hr hkr hd hkn hes hR hms
    unfold TrOut
    rcases xright_kind hf with hk | hk | hk | ⟨hk, hn1, hn2⟩
    · rw [hk] at hke ⊢
      have HK : Hid (R = .mk 2 ms 0 [] 0) := Lib.hid (by rw [hke]; rfl)
      obtain ⟨w0, hw0, hE0, hX, hB⟩ := bx_tr w (.int .i64 1) (.string ⟨ms.toArray⟩) (.int .i64 m.n) (.slice mA kn mcap)
      obtain ⟨⟨c0, c1, c2, c3⟩, _⟩ := hX.four
      obtain ⟨⟨d0, d1, d2, d3, d4⟩, r0, r1, r2, r3, r4⟩ := hB.five
      have HB := Lib.hid hB
      have HE := Lib.hid hE0
      clear hke hk hf hX hB hE0
      go_enter Tryz.func170, Tryz.ntmps170
      go_wp2
      (try simp only [Exit.inBlock, Exit.then])
      rw [set5_fold]
      refine bodyPost_ret (results_cell1 rfl _ _ _ _ _ rfl (HB.out.set5 _ _ _ _ _) Tryz.underlying67 rfl Tryz.sizeTree) rfl ?_
      exact ⟨.mk 2 ms 0 none 0 [] 0, rfl, HK.out.symm, lies_leaf _ _ _ _ _ _ _, HE.out.box (set5_but _ _ _ _ _ _ _) (by omega)⟩
    · rw [hk] at hke ⊢
      have HK : Hid (R = .mk 3 [] m.n [] 0) := Lib.hid (by rw [hke]; rfl)
      obtain ⟨w0, hw0, hE0, hX, hB⟩ := bx_tr w (.int .i64 2) (.string ⟨ms.toArray⟩) (.int .i64 m.n) (.slice mA kn mcap)
      obtain ⟨⟨c0, c1, c2, c3⟩, _⟩ := hX.four
      obtain ⟨⟨d0, d1, d2, d3, d4⟩, r0, r1, r2, r3, r4⟩ := hB.five
      have HB := Lib.hid hB
      have HE := Lib.hid hE0
      clear hke hk hf hX hB hE0
      go_enter Tryz.func170, Tryz.ntmps170
      go_wp2
      (try simp only [Exit.inBlock, Exit.then])
      rw [set5_fold]
      refine bodyPost_ret (results_cell1 rfl _ _ _ _ _ rfl (HB.out.set5 _ _ _ _ _) Tryz.underlying67 rfl Tryz.sizeTree) rfl ?_
      exact ⟨.mk 3 [] m.n none 0 [] 0, rfl, HK.out.symm, lies_leaf _ _ _ _ _ _ _, HE.out.box (set5_but _ _ _ _ _ _ _) (by omega)⟩
    · rw [hk] at hke ⊢
      have HK : Hid (R = .mk 4 ms 0 [] 0) := Lib.hid (by rw [hke]; rfl)
      obtain ⟨w0, hw0, hE0, hX, hB⟩ := bx_tr w (.int .i64 3) (.string ⟨ms.toArray⟩) (.int .i64 m.n) (.slice mA kn mcap)
      obtain ⟨⟨c0, c1, c2, c3⟩, _⟩ := hX.four
      obtain ⟨⟨d0, d1, d2, d3, d4⟩, r0, r1, r2, r3, r4⟩ := hB.five
      have HB := Lib.hid hB
      have HE := Lib.hid hE0
      clear hke hk hf hX hB hE0
      go_enter Tryz.func170, Tryz.ntmps170
      go_wp2
      (try simp only [Exit.inBlock, Exit.then])
      rw [set5_fold]
      refine bodyPost_ret (results_cell1 rfl _ _ _ _ _ rfl (HB.out.set5 _ _ _ _ _) Tryz.underlying67 rfl Tryz.sizeTree) rfl ?_
      exact ⟨.mk 4 ms 0 none 0 [] 0, rfl, HK.out.symm, lies_leaf _ _ _ _ _ _ _, HE.out.box (set5_but _ _ _ _ _ _ _) (by omega)⟩
    · rw [hk] at hke ⊢
      have HK : Hid (R = .mk 1 [] 0 (.mk 2 ms 0 [] 0 :: m.kids.map fun x => xTree x.t) 0) := Lib.hid (by rw [hke]; rfl)
      have hkb : kn ≤ 3 := by rw [hn1]; unfold xTakes; split <;> (try split) <;> (try split) <;> omega
      obtain ⟨w0, hw0, hE0, hX, hB⟩ := bx_tr w (.int .i64 4) (.string ⟨ms.toArray⟩) (.int .i64 m.n) (.slice mA kn mcap)
      obtain ⟨⟨c0, c1, c2, c3⟩, _⟩ := hX.four
      have HX := Lib.hid hX
      have HB := Lib.hid hB
      have HE := Lib.hid hE0
      have hI : KdSt w0 (some ⟨w0.heap.size, 0, none⟩) 1 1 [.mk 2 ms 0 none 0 [] 0] (w0.alloc (.cells #[.int .i64 2, .string ⟨ms.toArray⟩, .int .i64 0, .slice none 0 0, .int .i64 0] 67)) := by
        refine ⟨?_, rfl, fun x hx => ?_, Ev.alloc _ _⟩
        · exact Ow.made (et := 67) (base := w0.heap.size) encM w0 [.mk 2 ms 0 none 0 [] 0] #[.int .i64 2, .string ⟨ms.toArray⟩, .int .i64 0, .slice none 0 0, .int .i64 0] rfl (Nat.le_refl _) (by simp)
        · simp at hx
          subst hx
          exact lies_leaf _ _ _ _ _ _ _
      have HI0 := Lib.hid hI
      obtain ⟨⟨c0', c1', c2', c3'⟩, _⟩ := (hX.ev (Ev.alloc w0 (.cells #[.int .i64 2, .string ⟨ms.toArray⟩, .int .i64 0, .slice none 0 0, .int .i64 0] 67))).four
      clear hke hk hf hX hB hE0 hI hn1 hn2
      go_enter Tryz.func170, Tryz.ntmps170
      go_wp2
      go_loopw [3, 30] (fun kv iv wr => ∃ (A1 : Option Addr) (n1 cap1 j : Nat) (L : List M), kv = .slice A1 n1 cap1 ∧ iv = .int .i64 (j : Int) ∧ j ≤ kn ∧ Hid (n1 = j + 1) ∧ Hid (KdSt w0 A1 n1 cap1 L wr) ∧ Hid (L.map M.t = .mk 2 ms 0 [] 0 :: (m.kids.take j).map fun x => xTree x.t)) (fun _ iv _ => kn - (intOf iv).toNat)
      case atStart => exact ⟨_, 1, 1, 0, _, rfl, rfl, Nat.zero_le _, Lib.hid rfl, HI0, Lib.hid rfl⟩
      case round =>
        obtain ⟨A1, n1, cap1, j, L, rfl, rfl, hj, HN, HS, HR⟩ := hrel
        have HEW := Lib.hid (HE.out.trans HS.out.ev)
        by_cases hlt : j < kn
        · obtain ⟨x, hx⟩ := HES.out.at hlt
          obtain ⟨b, off, rfl, hb, x0, x1, x2, x3⟩ := Es.cell (HES.out.ev HEW.out) hx
          have hxm := List.mem_of_getElem? hx
          have HTK : Hid ((m.kids.take (j + 1)).map (fun x => xTree x.t) = (m.kids.take j).map (fun x => xTree x.t) ++ [xTree x.t]) := Lib.hid (by
            obtain ⟨hk2, e⟩ := List.getElem?_eq_some_iff.1 hx
            rw [List.take_succ_eq_append_getElem hk2, e, List.map_append]
            rfl)
          have HI := fun w1 (hE : Ev w w1) => HIH.out x b0 w1 (by have := M.kid_dep hxm; have := HD.out; omega) ((HL.out.kid x hxm).ev hE) (HKR.out x hxm)
          unfold ev_ M.kv TrOut at HI
          unfold M.kv at x3
          have HI := Lib.hid HI
          have HLL := Lib.hid HS.out.len
          have HNL : Hid (L.length ≤ 4) := Lib.hid (by rw [HS.out.len, HN.out]; omega)
          have i1 : (0 : Int) ≤ (j : Int) := by omega
          have i2 : (j : Int) < (kn : Int) := by omega
          clear hx hxm
          go_wp2_with (first
            | ((with_reducible refine (HI.out _ (HEW.out.trans (Ev.alloc wr _))).mono ?_); rintro e w1 ⟨x', rfl, hxt, hxl, hE1⟩; have HXT := Lib.hid hxt; have HXL := Lib.hid hxl; have E1 := Lib.hid ((Ev.alloc wr _).trans hE1); clear hxt hxl)
            | ((show wpList _ _ _ (⟨some 38, _, _, _, _, _⟩ :: _) _ _); refine wpList_append_ow (o := ⟨some 38, _, _, _, _, _⟩) rfl 65 (.tmp 34) (.tmp 37) rfl encM Tryz.underlying65 Tryz.infoTree rfl rfl (HS.out.own.ev (E1.out.trans (Ev.alloc w1 _))) (some ⟨w1.heap.size, 0, none⟩) 1 1 [x'] rfl (Sl.one (et := 67) encM w1 x' _ rfl) (by have := HNL.out; simp; omega) (by have := HNL.out; simp; omega) ((HS.out.ev.trans E1.out).trans (Ev.alloc w1 _)).size ?_; intro v2 w2 hA2; obtain ⟨A2, cap2, rfl, ST2⟩ := HS.out.next (E1.out.trans (Ev.alloc w1 _)) ((HXL.out.low (Ev.alloc wr (.cells #[.int .i64 x.kind, .string ⟨x.s.toArray⟩, .int .i64 x.n, .slice x.A x.kids.length x.cap] 57)).size).ev (Ev.alloc w1 _)) hA2))
          go_roundw
          case rel => exact ⟨A2, n1 + 1, cap2, j + 1, L ++ [x'], rfl, by go_num, by omega, Lib.hid (by rw [HN.out]), Lib.hid ST2, Lib.hid (by rw [HTK.out, List.map_append, HR.out, List.map_cons, List.map_nil, HXT.out]; rfl)⟩
          case measure => simp [intOf]; omega
        · have hjk : j = kn := by omega
          have i2 : ¬ ((j : Int) < (kn : Int)) := by omega
          obtain ⟨hlx, hnl⟩ := HS.out.done
          have HNL := Lib.hid hnl
          have hbl := HB.out.lt
          have HLX := Lib.hid (hlx.less (K' := [w.heap.size + 1]) fun k hk => by simp at hk; subst hk; exact .inr (.inl hbl))
          have HT : Hid (M.t (.mk 1 [] 0 A1 cap1 L 0) = R) := Lib.hid (by
            have h5 := HR.out
            rw [hjk, HKN.out, List.take_length] at h5
            simp only [M.t, M.ts_map]
            rw [h5, HK.out])
          have HBR := Lib.hid (HB.out.ev HS.out.ev)
          obtain ⟨⟨d0, d1, d2, d3, d4⟩, r0, r1, r2, r3, r4⟩ := HBR.out.five
          have HSZ := Lib.hid HE.out.size
          clear hjk hlx hnl hbl
          go_wp2
          (try simp only [Exit.inBlock, Exit.then])
          rw [set5_fold]
          refine bodyPost_ret (results_cell1 rfl _ _ _ _ _ rfl (HBR.out.set5 _ _ _ _ _) Tryz.underlying67 rfl Tryz.sizeTree) rfl ?_
          refine ⟨.mk 1 [] 0 A1 cap1 L 0, by simp only [M.kids, M.kind, M.s, M.n, M.A, M.cap, M.pos]; rw [← HNL.out]; rfl, HT.out, ?_, HEW.out.box (set5_but _ _ _ _ _ _ _) (by omega)⟩
          exact (HLX.out.move (set5_but _ _ _ _ _ _ _) fun k hk => by cases hk).low HSZ.out

set_option maxRecDepth 100000 in
set_option maxHeartbeats 1600000 in
/-- Tree, of what Read makes. -/
theorem ex_Tree (m : M) (b0 : Nat) (w : World) (hL : Lx b0 [] w m) (hr : xRight m.t = true) (hsz : m.t.size ≤ 16000) (hf : m.t.every (fun t => decide (t.s.length ≤ 1000000)) = true) :
    Calls Tryz.prog 110 #[ev_ m] w (TrOut (xTree m.t) w) := by
  have hR := fun w1 (hE : Ev w w1) => ex_isRight m b0 w1 (hL.ev hE) hsz hf
  rw [hr] at hR
  have HR := Lib.hid hR
  have HT := Lib.hid (fun w1 (hE : Ev w w1) => ex_tree m.dep m b0 w1 (Nat.le_refl _) (hL.ev hE) hr)
  unfold ev_ M.kv TrOut at *
  obtain ⟨w0, hw0, hE0, hX, hB⟩ := bx_tr w (.int .i64 m.kind) (.string ⟨m.s.toArray⟩) (.int .i64 m.n) (.slice m.A m.kids.length m.cap)
  obtain ⟨⟨c0, c1, c2, c3⟩, _⟩ := hX.four
  have HX := Lib.hid hX
  have HB := Lib.hid hB
  have HE := Lib.hid hE0
  have hbl := Lib.hid hB.lt
  clear hL hr hsz hf hR hX hB hE0
  go_enter Tryz.func110, Tryz.ntmps110
  go_wp2_with (first
    | ((with_reducible refine (HR.out _ HE.out).mono ?_); rintro e w1 ⟨rfl, hE1⟩; have HE1 := Lib.hid hE1; clear c0 c1 c2 c3; obtain ⟨⟨c0, c1, c2, c3⟩, _⟩ := (HX.out.ev hE1).four; clear hE1)
    | ((with_reducible refine (HT.out _ (HE.out.trans HE1.out)).mono ?_); rintro e w2 ⟨x, rfl, hxt, hxl, hE2⟩; have HE2 := Lib.hid (HE1.out.trans hE2); have HXT := Lib.hid hxt; have HXL := Lib.hid (hxl.low (Nat.le_trans (Nat.le_succ_of_le hbl.out) (Nat.succ_le_succ HE1.out.size) |> fun h => (by have := HE1.out.size; have := hbl.out; omega : w.heap.size + 2 ≤ w1.heap.size))); clear hxt hxl hE2; obtain ⟨⟨d0, d1, d2, d3, d4⟩, r0, r1, r2, r3, r4⟩ := (HB.out.ev HE2.out).five))
  (try simp only [Exit.inBlock, Exit.then])
  rw [set5_fold]
  refine bodyPost_ret (results_cell1 rfl _ _ _ _ _ rfl ((HB.out.ev HE2.out).set5 _ _ _ _ _) Tryz.underlying67 rfl Tryz.sizeTree) rfl ?_
  refine ⟨x, rfl, HXT.out, ?_, (HE.out.trans HE2.out).box (set5_but _ _ _ _ _ _ _) (by omega)⟩
  exact ((HXL.out.less (K' := [w.heap.size + 1]) fun k hk => by simp at hk; subst hk; exact .inr (.inl (by omega))).move (set5_but _ _ _ _ _ _ _) fun k hk => by cases hk).low (by omega)
end Go.Proofs.YtojbahjebfcmgaaGreatDoor
