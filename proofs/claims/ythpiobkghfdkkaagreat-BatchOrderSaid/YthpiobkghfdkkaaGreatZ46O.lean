/-
  Texts that belong together: Package batch: slices.Insert of one delta. Deltas of t and u in plain words; search and Insert in them. Package batch: deltas. The document's Make (chapter 6): its parts. Package batch: a change of t or u; Apply. The law's tables (chapter 16): the parts.
-/
import Derived.Lib.Overlaps
import Derived.Laws.CopyRow
import Derived.Lib.AppendZerosOnto
import Derived.Test.YthpiobkghfdkkaaGreatZ45O
import Derived.Test.YthpiobkghfdkkaaGreatZ42O
import Derived.Test.YthpiobkghfdkkaaGreatZ11O
import Derived.Test.YthpiobkghfdkkaaGreatZ2O
import Derived.Test.YthpiobkghfdkkaaGreatZ38O
import Derived.Test.YthpiobkghfdkkaaGreatZ44O
import Derived.Test.YthpiobkghfdkkaaGreatZ27O
import Derived.Test.YthpiobkghfdkkaaGreatZ12O
namespace Go.Proofs.YthpiobkghfdkkaaGreat
open Go.RowKit
set_option linter.unusedVariables false

/-- What Insert leaves. -/
def InsOut (base : Nat) (v : Value) (Z : List DL) (w : World) (e : Ending) (w' : World) : Prop := ∃ v', e = .returned v' ∧ Ow 54 2 dlc base w' v' Z ∧ OwP PvT w' v' ∧ But (foot v) w w'
set_option maxRecDepth 100000 in
set_option maxHeartbeats 8000000 in
theorem bt_ins0 (base xb : Nat) (x : DL) (w : World) (hx : Sl 2 dlc w (some ⟨xb, 0, none⟩) 1 1 [x]) (hbase : base ≤ w.heap.size) :
    Calls Tryz.prog 66 #[.slice none 0 0, .int .i64 0, .slice (some ⟨xb, 0, none⟩) 1 1] w (InsOut base (.slice none 0 0) [x] w) := by
  have HX := Lib.hid hx
  have HO : Hid (Ow 54 2 dlc base w (.slice none 0 0) ([] : List DL)) := Lib.hid (Ow.nil_ _)
  have HP : Hid (OwP PvT w (.slice none 0 0)) := Lib.hid (OwP.none_ _ _ _ _)
  clear hx
  go_enter Tryz.func66, Tryz.ntmps66
  go_wp2_with (first
    | ((show wpList _ _ _ (⟨some 25, _, _, _, _, _⟩ :: _) _ _); refine wpList_append_owp PvT (o := ⟨some 25, _, _, _, _, _⟩) rfl 36 (.tmp 23) (.tmp 24) rfl encDL Tryz.underlying36 Tryz.infoDelta rfl rfl HO.out (some ⟨xb, 0, none⟩) 1 1 [x] rfl HX.out (by simp) (by simp) hbase (by omega) pvt_zeroD (fun y hy => by obtain rfl := List.mem_singleton.1 hy; exact pvt_dlc y) HP.out ?_; rintro v2 w2 ⟨hA2, hP2⟩; have HA2 := Lib.hid hA2; have HP2 := Lib.hid hP2; clear hA2 hP2))
  go_ret
  unfold InsOut
  exact ⟨_, rfl, HA2.out.1, HP2.out, HA2.out.2.1⟩

set_option maxRecDepth 100000 in
set_option maxHeartbeats 8000000 in
theorem bt_insEnd (base g n c xb : Nat) (Z : List DL) (x : DL) (w : World) (h : Ow 54 2 dlc base w (.slice (some ⟨g, 0, none⟩) n c) Z) (hp : OwP PvT w (.slice (some ⟨g, 0, none⟩) n c)) (hx : Sl 2 dlc w (some ⟨xb, 0, none⟩) 1 1 [x]) (hbase : base ≤ w.heap.size) (hn : n ≤ 1000) :
    Calls Tryz.prog 66 #[.slice (some ⟨g, 0, none⟩) n c, .int .i64 (n : Int), .slice (some ⟨xb, 0, none⟩) 1 1] w (InsOut base (.slice (some ⟨g, 0, none⟩) n c) (Z ++ [x]) w) := by
  obtain ⟨A, c', e, hS, _⟩ := h.form encDL
  injection e with e1 e2 e3
  subst e1; subst e3
  have hcl : n ≤ c := by have := hS.le; omega
  have hcm := hS.max
  have HZL : Hid (Z.length = n) := Lib.hid e2.symm
  have HX := Lib.hid hx
  have HO := Lib.hid h
  have HP := Lib.hid hp
  clear hx h hp hS e2
  by_cases hc1 : c = n
  · have i1 : ¬ (c < n) := by omega
    go_enter Tryz.func66, Tryz.ntmps66
    go_wp2_with (first
      | ((show wpList _ _ _ (⟨some 25, _, _, _, _, _⟩ :: _) _ _); refine wpList_append_owp PvT (o := ⟨some 25, _, _, _, _, _⟩) rfl 36 (.tmp 23) (.tmp 24) rfl encDL Tryz.underlying36 Tryz.infoDelta rfl rfl HO.out (some ⟨xb, 0, none⟩) 1 1 [x] rfl HX.out (by rw [HZL.out]; simp; omega) (by rw [HZL.out]; simp; omega) hbase (by omega) pvt_zeroD (fun y hy => by obtain rfl := List.mem_singleton.1 hy; exact pvt_dlc y) HP.out ?_; rintro v2 w2 ⟨hA2, hP2⟩; have HA2 := Lib.hid hA2; have HP2 := Lib.hid hP2; clear hA2 hP2))
    go_ret
    unfold InsOut
    exact ⟨_, rfl, HA2.out.1, HP2.out, HA2.out.2.1⟩
  · have i1 : ¬ (c = n) := by omega
    go_enter Tryz.func66, Tryz.ntmps66
    go_wp2_with (first
      | ((show wpList _ _ _ (⟨some 25, _, _, _, _, _⟩ :: _) _ _); refine wpList_append_owp PvT (o := ⟨some 25, _, _, _, _, _⟩) rfl 36 (.tmp 23) (.tmp 24) rfl encDL Tryz.underlying36 Tryz.infoDelta rfl rfl HO.out (some ⟨xb, 0, none⟩) 1 1 [x] rfl HX.out (by rw [HZL.out]; simp; omega) (by rw [HZL.out]; simp; omega) hbase (by omega) pvt_zeroD (fun y hy => by obtain rfl := List.mem_singleton.1 hy; exact pvt_dlc y) HP.out ?_; rintro v2 w2 ⟨hA2, hP2⟩; have HA2 := Lib.hid hA2; have HP2 := Lib.hid hP2; clear hA2 hP2))
    go_ret
    unfold InsOut
    exact ⟨_, rfl, HA2.out.1, HP2.out, HA2.out.2.1⟩


/-- copy of elements of k cells each. -/
theorem run_copy_rowK {P : Program} (w : World) (dT sT ty elem : TypeId) (g o dLen dCap : Nat) (a : Addr) (sLen sCap : Nat) (cur : Array Value) (t : TypeId) (cs : List Value) (k m : Nat)
    (hu : P.underlying dT = some (.slice elem)) (hs : (P.info? elem).map (·.size) = some k)
    (hg : w.heap[g]? = some (.cells cur t (0, 0))) (hm : Nat.min sLen dLen = m) (hn : cs.length = m * k)
    (hsrc : ∀ j v, cs[j]? = some v → w.cell? (a.add j) = some v) (hfit : o + cs.length ≤ cur.size) (h1 : ∀ v ∈ cs, v.oneCell' = true) :
    (Builtin.copy_ #[dT, sT] ty #[.slice (some ⟨g, o, none⟩) dLen dCap, .slice (some a) sLen sCap]).run P w =
      .ok (goInt m) (w.setRow g (cur.toList.take o ++ cs ++ cur.toList.drop (o + cs.length)).toArray) := by
  have hl := run_loadCells_list (P := P) w a cs hsrc
  have hst := run_storeCells_at P g o t cs 0 cur w hg (by simpa using hfit) h1
  cases hq : P.info? elem with
  | none => simp [hq] at hs
  | some i =>
    have hi : i.size = k := by simpa [hq] using hs
    simp [Builtin.copy_, run_underlying hu, Builtin.lenOf, Builtin.firstCells, sizeOf, typeInfo, hq, hi, hm, ← hn, hl, hst]
theorem wpList_copy_run1 {P : Program} (w : World) {ops : Array Oper} {rest : List Oper} {o : Oper} {a : Act} {Q : Exit → Act → World → Prop} (hgd : o.guard = none) (d s : Operand) (t t' : TypeId)
    (ho : o.op = .call { callee := .builtin .copy, args := #[d, s], argTypes := #[t, t'] }) (v u : Value) (hd : a.eval d = v) (hs : a.eval s = u) {v' : Value} {w' : World}
    (hr : (Builtin.copy_ #[t, t'] o.type #[v, u]).run P w = .ok v' w') (h : wpList P ops Q rest (a.put o.dst v') w') : wpList P ops Q (o :: rest) a w := by
  refine wpList_plain hgd fun K hK => ?_
  unfold Oper.wp execOp
  simp only [ho, resolve, invoke, builtin, Sem.run_bind, Sem.run_pure, Result.andThen_ok, List.map_toArray, List.map_cons, List.map_nil, hd, hs, hr]
  exact hK _ _ h
theorem step_copy_run1 {P : Program} {ops : Array Oper} {o : Oper} {a : Act} {w : World} {K : Act → World → Prop} {Q : Exit → Act → World → Prop} {E : Prop}
    (hg : o.guard = none) (d x : Operand) (dT sT : TypeId) (hop : o.op = Op.call { callee := Callee.builtin Builtin.copy, args := #[d, x], argTypes := #[dT, sT] })
    (v u : Value) (hd : a.eval d = v) (hx : a.eval x = u) {v' : Value} {w' : World} (hr : (Builtin.copy_ #[dT, sT] o.type #[v, u]).run P w = .ok v' w') (hK : K (a.put o.dst v') w') :
    if Region.wanted o (yielded ops a.tmps) = true then Oper.wp P o a w K Q else E := by
  have hw : Region.wanted o (yielded ops a.tmps) = true := by simp [Region.wanted, hg]
  rw [if_pos hw]
  unfold Oper.wp
  simp [execOp, hop, resolve, invoke, builtin, hd, hx, hr, Result.andThen]
  exact hK
theorem setRow_but (g : Nat) (cs : Array Value) (w : World) : But [g] w (w.setRow g cs) :=
  ⟨rfl, rfl, rfl, by simp [World.setRow], fun k _ hn => by
    simp only [World.setRow, Array.getElem?_modify]
    rw [if_neg (fun e => hn (by simp [e]))]⟩
theorem Tryz.sizeDelta : (Tryz.prog.info? 54).map (·.size) = some 2 := by kernel_rfl
theorem cl_take_of {Z : List DL} {cur : Array Value} {m : Nat} (ht : cur.toList.take (Z.length * 2) = cl dlc Z) : (cl dlc Z).length = Z.length * 2 ∧ ∀ (j : Nat) (v : Value), (cl dlc Z)[j]? = some v → cur[j]? = some v := by
  have hl := cl_length encDL Z
  refine ⟨hl, fun j v hj => ?_⟩
  rw [← ht, List.getElem?_take] at hj
  split at hj
  · simpa using hj
  · cases hj

set_option maxRecDepth 100000 in
set_option maxHeartbeats 8000000 in
theorem bt_insRoom (base g n c xb : Nat) (Z : List DL) (x : DL) (w : World) (h : Ow 54 2 dlc base w (.slice (some ⟨g, 0, none⟩) n c) Z) (hp : OwP PvT w (.slice (some ⟨g, 0, none⟩) n c)) (hx : Bx 54 xb #[.string ⟨x.name.toArray⟩, .slice x.A x.rows.length x.cap] w) (hne : xb ≠ g) (h0 : 0 < n) (hroom : n + 1 ≤ c) (hn : n ≤ 1000) :
    Calls Tryz.prog 66 #[.slice (some ⟨g, 0, none⟩) n c, .int .i64 0, .slice (some ⟨xb, 0, none⟩) 1 1] w (InsOut base (.slice (some ⟨g, 0, none⟩) n c) (x :: Z) w) := by
  rcases h.2 with ⟨e, _⟩ | ⟨g', c', cur, e, hb, hg, hnc, hcm, hcs, ht⟩
  · cases e
  injection e with e1 e2 e3
  injection e1 with e1
  injection e1 with e1 _ _
  subst e1; subst e3
  obtain ⟨hcl, hcc⟩ := cl_take_of (m := 0) ht
  rw [← e2] at hcl ht
  have hov : ∀ lb cb, (callFunc 96 #[.slice (some ⟨xb, 0, none⟩) 1 1, .slice (some ⟨g, 2, none⟩) lb cb]).run Tryz.prog w = .ok (.value (.bool false)) w := fun lb cb => by
    rw [run_callFunc_extern Tryz.func96 (by kernel_rfl) (by kernel_rfl) (by kernel_rfl) (e := Extern.SlicesOverlaps.overlaps #[36, 36] #[4]) (by kernel_rfl),
      Lib.run_overlaps_apart w 36 4 54 Tryz.underlying36 2 Tryz.sizeOf54 ⟨xb, 0, none⟩ ⟨g, 2, none⟩ 1 1 lb cb hne 54 54 2 (c * 2) (by simp [World.shape?, hx.blk]) (by simp [World.shape?, hg, hcs]) (by omega) (hx.frozen 0) (hx.frozen 2)]
    rfl
  obtain ⟨a1, ha1⟩ : ∃ a1 : Array Value, a1 = (cur.toList.take 2 ++ cl dlc Z ++ cur.toList.drop (2 + (cl dlc Z).length)).toArray := ⟨_, rfl⟩
  obtain ⟨a2, ha2⟩ : ∃ a2 : Array Value, a2 = (a1.toList.take 0 ++ dlc x ++ a1.toList.drop (0 + (dlc x).length)).toArray := ⟨_, rfl⟩
  have hgd : w.drew.heap[g]? = some (.cells cur 54 (0, 0)) := hg
  have hcp1 : ∀ ty dc sc, (Builtin.copy_ #[36, 36] ty #[.slice (some ⟨g, 2, none⟩) n dc, .slice (some ⟨g, 0, none⟩) (n + 1) sc]).run Tryz.prog w.drew = .ok (goInt n) (w.drew.setRow g a1) := fun ty dc sc => by
    rw [ha1]
    exact run_copy_rowK w.drew _ _ ty 54 g 2 n dc ⟨g, 0, none⟩ (n + 1) sc cur 54 (cl dlc Z) 2 n Tryz.underlying36 Tryz.sizeDelta hgd (by simp only [Nat.min_def]; split <;> omega) hcl (fun j v hj => by
      rw [Addr.add_lit, Lib.cell_of_heap hgd, Nat.zero_add]
      exact hcc j v hj) (by omega) (cl_one encDL Z)
  have hs1 : a1.size = c * 2 := by rw [ha1]; simp; omega
  have hg1 : (w.drew.setRow g a1).heap[g]? = some (.cells a1 54 (0, 0)) := setRow_heap _ _ _ _ _ _ hgd
  have hcp2 : ∀ (W : World), W.heap = (w.drew.setRow g a1).heap → ∀ ty dc, (Builtin.copy_ #[36, 36] ty #[.slice (some ⟨g, 0, none⟩) (n + 1) dc, .slice (some ⟨xb, 0, none⟩) 1 1]).run Tryz.prog W = .ok (goInt 1) (W.setRow g a2) := fun W hW ty dc => by
    rw [ha2]
    exact run_copy_rowK W _ _ ty 54 g 0 (n + 1) dc ⟨xb, 0, none⟩ 1 1 a1 54 (dlc x) 2 1 Tryz.underlying36 Tryz.sizeDelta (by rw [hW]; exact hg1) (by simp only [Nat.min_def]; split <;> omega) rfl (fun j v hj => by
      have hbx : W.heap[xb]? = some (.cells #[.string ⟨x.name.toArray⟩, .slice x.A x.rows.length x.cap] 54 (0, 0)) := by
        rw [hW]
        exact ((setRow_but g a1 w.drew).heap (k := xb) (o := .cells #[.string ⟨x.name.toArray⟩, .slice x.A x.rows.length x.cap] 54 (0, 0)) hx.blk (by simpa using hne))
      rw [Addr.add_lit, Lib.cell_of_heap hbx, Nat.zero_add]
      unfold dlc at hj
      simpa using hj) (by simp [dlc]; omega) (by simp [dlc, Value.oneCell'])
  have HF : Hid (∀ W : World, W.heap = (w.drew.setRow g a1).heap → Ow 54 2 dlc base (W.setRow g a2) (.slice (some ⟨g, 0, none⟩) (n + 1) c) (x :: Z) ∧ OwP PvT (W.setRow g a2) (.slice (some ⟨g, 0, none⟩) (n + 1) c)) := Lib.hid (fun W hW => by
    have hg2 : (W.setRow g a2).heap[g]? = some (.cells a2 54 (0, 0)) := setRow_heap _ _ _ _ _ _ (by rw [hW]; exact hg1)
    have hal : a2.toList = cl dlc (x :: Z) ++ cur.toList.drop (2 + n * 2) := by
      rw [ha2, ha1, cl_cons, hcl]
      have hl2 : (cur.toList.take 2).length = 2 := by rw [List.length_take]; simp; omega
      simp only [List.take_zero, List.nil_append, Nat.zero_add]
      rw [show (dlc x).length = 2 from rfl, List.append_assoc, List.append_assoc]
      congr 1
      rw [List.drop_append_of_le_length (by rw [hl2]; exact Nat.le_refl _), List.drop_of_length_le (by rw [hl2]; exact Nat.le_refl _), List.nil_append]
    refine ⟨⟨cl_length encDL _, .inr ⟨g, c, a2, by rw [List.length_cons, ← e2], hb, hg2, by rw [List.length_cons, ← e2]; exact hroom, hcm, by rw [ha2]; simp [dlc]; omega, ?_⟩⟩, fun g' hg' cs T q hh u hu => ?_⟩
    · rw [hal]
      exact List.take_left' (by rw [cl_length encDL])
    · simp only [Value.ownBlock, Option.some.injEq] at hg'
      subst hg'
      rw [hg2] at hh
      injection hh with hh
      injection hh with hh _ _
      subst hh
      rw [hal] at hu
      rcases List.mem_append.1 hu with hu | hu
      · obtain ⟨y, _, hy⟩ := cl_mem hu
        exact pvt_dlc y u hy
      · exact hp g rfl _ _ _ hg u (List.mem_of_mem_drop hu))
  have HB : Hid (∀ W : World, But [g] w W → But [g] w (W.setRow g a2)) := Lib.hid (fun W hW => hW.then (setRow_but g a2 W))
  have HB1 : Hid (But [g] w (w.drew.setRow g a1)) := Lib.hid ((But.drew).then (setRow_but g a1 w.drew))
  have i1 : ¬ (c = 1) := by omega
  have i2 : ¬ ((0 : Int) = (n : Int)) := by omega
  have i3 : ¬ ((c : Int) < (n : Int) + 1) := by omega
  obtain ⟨W1, hW1⟩ : ∃ W1, W1 = w.drew.setRow g a1 := ⟨_, rfl⟩
  rw [← hW1] at hcp1 hcp2 HF HB1
  have hmix : Tryz.prog.follows .mixedOrders = true := by kernel_rfl
  have hwr1 : IntKind.i64.wrap 1 = 1 := rfl
  have i4 : (1 : Int) ≤ (n : Int) + 1 := by omega
  have i5 : (0 : Int) ≤ (n : Int) + 1 := by omega
  clear h hp hx hg hgd hs1 hg1 ha1 ha2 hcs ht hcc hcl hb hne e2 hW1
  go_enter Tryz.func66, Tryz.ntmps66
  go_wp2_with (simp only [hov])
  go_region_law (refine step_copy_run1 rfl _ _ 36 36 rfl _ _ (by simp [Act.eval, Act.put]) (by simp [Act.eval, Act.put]) (hcp1 _ _ _) ?_)
  go_wp2_with (at_builtin; refine wpList_copy_run1 _ rfl _ _ 36 36 rfl _ _ rfl rfl (hcp2 _ rfl _ _) ?_)
  go_ret
  unfold InsOut
  exact ⟨_, rfl, (HF.out _ rfl).1, (HF.out _ rfl).2, HB.out _ HB1.out⟩

set_option maxRecDepth 100000 in
set_option maxHeartbeats 8000000 in
theorem bt_insGrow (base g n c xb : Nat) (Z : List DL) (x : DL) (w : World) (h : Ow 54 2 dlc base w (.slice (some ⟨g, 0, none⟩) n c) Z) (hx : Bx 54 xb #[.string ⟨x.name.toArray⟩, .slice x.A x.rows.length x.cap] w) (h0 : 0 < n) (hroom : c < n + 1) (hn : n ≤ 1000) (hbase : base ≤ w.heap.size) :
    Calls Tryz.prog 66 #[.slice (some ⟨g, 0, none⟩) n c, .int .i64 0, .slice (some ⟨xb, 0, none⟩) 1 1] w (InsOut base (.slice (some ⟨g, 0, none⟩) n c) (x :: Z) w) := by
  rcases h.2 with ⟨e, _⟩ | ⟨g', c', cur, e, hb, hg, hnc, hcm, hcs, ht⟩
  · cases e
  injection e with e1 e2 e3
  injection e1 with e1
  injection e1 with e1 _ _
  subst e1; subst e3
  obtain ⟨hcl, hcc⟩ := cl_take_of (m := 0) ht
  rw [← e2] at hcl ht
  obtain ⟨i0, hi0, hz0, hs0, hb0⟩ := info_parts Tryz.infoDelta
  obtain ⟨G, hG⟩ : ∃ G, G = grownCap w (n + 1) c 54 := ⟨_, rfl⟩
  have hGn : n + 1 ≤ G := by rw [hG]; exact grownCap_ge w _ _ _
  have hGm : G ≤ maxLen := by rw [hG]; exact grownCap_le_maxLen w (n + 1) c _ (by unfold maxLen; omega)
  have hG63 : G ≤ 9223372036854775807 := by simpa [maxLen] using hGm
  have hfit : Builtin.nextslicecap (0 + (n + 1)) c * i0.bytes ≤ 281474976710656 := growslice_fits (by omega) (by rw [hb0]; omega)
  obtain ⟨ROW, hROW⟩ : ∃ ROW : Array Value, ROW = ([] : List Value).toArray ++ Builtin.zeroCells (Value.agg #[.string ⟨#[]⟩, .slice none 0 0]).cells (n + 1) ++ Builtin.zeroCells (Value.agg #[.string ⟨#[]⟩, .slice none 0 0]).cells (G - (n + 1)) := ⟨_, rfl⟩
  have hRs : ROW.size = G * 2 := by
    rw [hROW]
    simp only [Array.size_append, zeros_size]
    show 0 + (n + 1) * 2 + (G - (n + 1)) * 2 = G * 2
    omega
  have hRp : ∀ u ∈ ROW.toList, PvT u := fun u hu => by
    rw [hROW, Array.toList_append, Array.toList_append] at hu
    rcases List.mem_append.1 hu with hu | hu
    · rcases List.mem_append.1 hu with hu | hu
      · simp at hu
      · exact zero_pure _ _ pvt_zeroD u hu
    · exact zero_pure _ _ pvt_zeroD u hu
  have hrz : ∀ ty, (Builtin.append_ #[36, 3] ty #[.slice (some ⟨g, 0, none⟩) 0 c, .int .i64 ((n : Int) + 1)]).run Tryz.prog w = .ok (.slice (some ⟨w.heap.size, 0, none⟩) (n + 1) G) (w.drew.alloc (.cells ROW 54)) := fun ty => by
    have h := Lib.run_append_grow_zeros (P := Tryz.prog) w 36 3 ty 54 i0 _ .i64 .i64 Tryz.underlying36 Tryz.underlying3 hi0 hz0 (some ⟨g, 0, none⟩) 0 c [] (run_firstCells_some w.drew i0.size 0 ⟨g, 0, none⟩ 0 c [] (by simp) (fun j v hj => by simp at hj)) (n + 1) (by omega) (by rw [hs0]; omega) (by omega) (by omega) (by rw [hb0]; omega) hfit
    simp only [Nat.zero_add] at h
    rw [← hG, ← hROW] at h
    exact h
  obtain ⟨b1, hb1⟩ : ∃ b1 : Array Value, b1 = (ROW.toList.take 0 ++ dlc x ++ ROW.toList.drop (0 + (dlc x).length)).toArray := ⟨_, rfl⟩
  obtain ⟨b2, hb2⟩ : ∃ b2 : Array Value, b2 = (b1.toList.take 2 ++ cl dlc Z ++ b1.toList.drop (2 + (cl dlc Z).length)).toArray := ⟨_, rfl⟩
  obtain ⟨N, hN⟩ : ∃ N, N = w.heap.size := ⟨_, rfl⟩
  have hgN : g < N := by rw [hN]; exact (Array.getElem?_eq_some_iff.1 hg).1
  have hxN : xb < N := by rw [hN]; exact hx.lt
  have hh1 : (w.drew.alloc (.cells ROW 54)).heap[N]? = some (.cells ROW 54 (0, 0)) := by rw [hN]; exact heap_alloc_new w.drew _
  have hE1 : Ev w (w.drew.alloc (.cells ROW 54)) := (Ev.drew w).trans (Ev.alloc _ _)
  obtain ⟨W1, hW1⟩ : ∃ W1, W1 = w.drew.alloc (.cells ROW 54) := ⟨_, rfl⟩
  rw [← hW1] at hrz hh1 hE1
  have hs1 : b1.size = G * 2 := by rw [hb1]; simp [dlc]; omega
  have hcp1 : ∀ ty dc, (Builtin.copy_ #[36, 36] ty #[.slice (some ⟨N, 0, none⟩) (n + 1) dc, .slice (some ⟨xb, 0, none⟩) 1 1]).run Tryz.prog W1 = .ok (goInt 1) (W1.setRow N b1) := fun ty dc => by
    rw [hb1]
    exact run_copy_rowK W1 _ _ ty 54 N 0 (n + 1) dc ⟨xb, 0, none⟩ 1 1 ROW 54 (dlc x) 2 1 Tryz.underlying36 Tryz.sizeDelta hh1 (by simp only [Nat.min_def]; split <;> omega) rfl (fun j v hj => by
      rw [Addr.add_lit, Lib.cell_of_heap (hx.ev hE1).blk, Nat.zero_add]
      unfold dlc at hj
      simpa using hj) (by simp [dlc]; omega) (by simp [dlc, Value.oneCell'])
  have hg2 : (W1.setRow N b1).heap[N]? = some (.cells b1 54 (0, 0)) := setRow_heap _ _ _ _ _ _ hh1
  have hcp2 : ∀ W : World, W.heap = (W1.setRow N b1).heap → ∀ ty dc, (Builtin.copy_ #[36, 36] ty #[.slice (some ⟨N, 2, none⟩) n dc, .slice (some ⟨g, 0, none⟩) n c]).run Tryz.prog W = .ok (goInt n) (W.setRow N b2) := fun W hW ty dc => by
    rw [hb2]
    exact run_copy_rowK W _ _ ty 54 N 2 n dc ⟨g, 0, none⟩ n c b1 54 (cl dlc Z) 2 n Tryz.underlying36 Tryz.sizeDelta (by rw [hW]; exact hg2) (by simp only [Nat.min_def]; split <;> omega) hcl (fun j v hj => by
      have hgW : W.heap[g]? = some (.cells cur 54 (0, 0)) := by
        rw [hW]
        refine (setRow_but N b1 W1).heap (k := g) ?_ (by simp; omega)
        rw [hE1.block g (by rw [← hN]; exact hgN)]
        exact hg
      rw [Addr.add_lit, Lib.cell_of_heap hgW, Nat.zero_add]
      exact hcc j v hj) (by omega) (cl_one encDL Z)
  have HF : Hid (∀ W : World, W.heap = (W1.setRow N b1).heap → Ow 54 2 dlc base (W.setRow N b2) (.slice (some ⟨N, 0, none⟩) (n + 1) G) (x :: Z) ∧ OwP PvT (W.setRow N b2) (.slice (some ⟨N, 0, none⟩) (n + 1) G)) := Lib.hid (fun W hW => by
    have hg3 : (W.setRow N b2).heap[N]? = some (.cells b2 54 (0, 0)) := setRow_heap _ _ _ _ _ _ (by rw [hW]; exact hg2)
    have hal : b2.toList = cl dlc (x :: Z) ++ ROW.toList.drop (2 + n * 2) := by
      rw [hb2, hb1, cl_cons, hcl]
      simp only [List.take_zero, List.nil_append, Nat.zero_add]
      rw [show (dlc x).length = 2 from rfl]
      have h5 : (dlc x).length = 2 := rfl
      rw [List.take_left' h5, List.drop_append, h5, List.drop_of_length_le (by rw [h5]; omega), List.nil_append, List.drop_drop]
      congr 2
      omega
    refine ⟨⟨cl_length encDL _, .inr ⟨N, G, b2, by rw [List.length_cons, ← e2], by rw [hN]; exact hbase, hg3, by rw [List.length_cons, ← e2]; exact hGn, hGm, by rw [hb2]; simp; omega, ?_⟩⟩, fun g' hg' cs T q hh u hu => ?_⟩
    · rw [hal]
      exact List.take_left' (by rw [cl_length encDL])
    · simp only [Value.ownBlock, Option.some.injEq] at hg'
      subst hg'
      rw [hg3] at hh
      injection hh with hh
      injection hh with hh _ _
      subst hh
      rw [hal] at hu
      rcases List.mem_append.1 hu with hu | hu
      · obtain ⟨y, _, hy⟩ := cl_mem hu
        exact pvt_dlc y u hy
      · exact hRp u (List.mem_of_mem_drop hu))
  have HB : Hid (∀ W : World, Ev w W → Ev w (W.setRow N b2)) := Lib.hid (fun W hW => ((But.of_ev (K := [N]) hW).then (setRow_but N b2 W)).ev fun k hk => by simp at hk; omega)
  have HB1 : Hid (Ev w (W1.setRow N b1)) := Lib.hid (((But.of_ev (K := [N]) hE1).then (setRow_but N b1 W1)).ev fun k hk => by simp at hk; omega)
  obtain ⟨W2, hW2⟩ : ∃ W2, W2 = W1.setRow N b1 := ⟨_, rfl⟩
  rw [← hW2] at hcp1 hcp2 HF HB1
  rw [← hN] at hrz
  have hcp3 := hcp2 W2.drew rfl
  clear hcp2
  have i1 : ¬ (G = 1) := by omega
  have i2 : ¬ ((0 : Int) = (n : Int)) := by omega
  have i3 : (c : Int) < (n : Int) + 1 := by omega
  have i4 : (1 : Int) ≤ (n : Int) + 1 := by omega
  have i5 : (0 : Int) ≤ (n : Int) + 1 := by omega
  have hmix : Tryz.prog.follows .mixedOrders = true := by kernel_rfl
  have hwr1 : IntKind.i64.wrap 1 = 1 := rfl
  clear h hx hg hs1 hh1 hE1 hg2 hb1 hb2 hcs ht hcc hcl hb e2 hW1 hW2 hN hgN hxN hRs hRp hROW hfit hi0 hz0 hs0 hb0 hG hbase
  go_enter Tryz.func66, Tryz.ntmps66
  go_wp2_with (first
    | (at_builtin; refine Lib.wpList_append_run _ rfl _ _ _ _ rfl _ _ rfl rfl _ _ (hrz _) ?_)
    | (at_builtin; refine wpList_copy_run1 _ rfl _ _ 36 36 rfl _ _ rfl rfl (hcp1 _ _) ?_))
  go_region_law (refine step_copy_run1 rfl _ _ 36 36 rfl _ _ (by simp [Act.eval, Act.put]) (by simp [Act.eval, Act.put]) (hcp3 _ _) ?_)
  go_wp2
  go_ret
  unfold InsOut
  exact ⟨_, rfl, (HF.out _ rfl).1, (HF.out _ rfl).2, But.of_ev (HB.out _ (HB1.out.trans (Ev.drew _)))⟩
end Go.Proofs.YthpiobkghfdkkaaGreat

namespace Go.Proofs.YthpiobkghfdkkaaGreat
open Go.RowKit
set_option linter.unusedVariables false

def nr (d : DL) : By × List I := (d.name, d.rows)
def nmT (b : Bool) : By := if b then [116] else [117]
/-- Deltas of t and u, in the order of the names. -/
def dF (dT dU : Option (List I)) : List (By × List I) := (dT.map fun s => (([116] : By), s)).toList ++ (dU.map fun s => (([117] : By), s)).toList
def dX (b : Bool) (dT dU : Option (List I)) : Option (List I) := if b then dT else dU
def ixE (b : Bool) (dT : Option (List I)) : Nat := if b then 0 else if dT.isSome then 1 else 0
def putT (b : Bool) (s : List I) (dT : Option (List I)) : Option (List I) := if b then some s else dT
def putU (b : Bool) (s : List I) (dU : Option (List I)) : Option (List I) := if b then dU else some s
theorem dF_cases {Z : List DL} {dT dU : Option (List I)} (h : Z.map nr = dF dT dU) : (dT = none ∧ dU = none ∧ Z = []) ∨ (∃ s d, dT = some s ∧ dU = none ∧ Z = [d] ∧ d.name = [116] ∧ d.rows = s) ∨ (∃ s d, dT = none ∧ dU = some s ∧ Z = [d] ∧ d.name = [117] ∧ d.rows = s) ∨ (∃ s s' d d', dT = some s ∧ dU = some s' ∧ Z = [d, d'] ∧ d.name = [116] ∧ d.rows = s ∧ d'.name = [117] ∧ d'.rows = s') := by
  cases dT with
  | none =>
    cases dU with
    | none =>
      have : Z = [] := by simpa [dF] using h
      exact .inl ⟨rfl, rfl, this⟩
    | some s =>
      match Z, h with
      | [d], h =>
        simp [dF, nr] at h
        exact .inr (.inr (.inl ⟨s, d, rfl, rfl, rfl, h.1, h.2⟩))
      | [], h => simp [dF] at h
      | _ :: _ :: _, h => simp [dF] at h
  | some s =>
    cases dU with
    | none =>
      match Z, h with
      | [d], h =>
        simp [dF, nr] at h
        exact .inr (.inl ⟨s, d, rfl, rfl, rfl, h.1, h.2⟩)
      | [], h => simp [dF] at h
      | _ :: _ :: _, h => simp [dF] at h
    | some s' =>
      match Z, h with
      | [d, d'], h =>
        simp [dF, nr] at h
        exact .inr (.inr (.inr ⟨s, s', d, d', rfl, rfl, rfl, h.1.1, h.1.2, h.2.1, h.2.2⟩))
      | [], h => simp [dF] at h
      | [_], h => simp [dF] at h
      | _ :: _ :: _ :: _, h => simp [dF] at h
theorem dF_get (b : Bool) {Z : List DL} {dT dU : Option (List I)} (h : Z.map nr = dF dT dU) {s : List I} (hs : dX b dT dU = some s) : ∃ d, Z[ixE b dT]? = some d ∧ d.name = nmT b ∧ d.rows = s := by
  rcases dF_cases h with ⟨rfl, rfl, rfl⟩ | ⟨_, d, rfl, rfl, rfl, h1, h2⟩ | ⟨_, d, rfl, rfl, rfl, h1, h2⟩ | ⟨_, _, d, d', rfl, rfl, rfl, h1, h2, h3, h4⟩ <;> cases b <;> simp [dX] at hs
  · exact ⟨d, rfl, h1, h2.trans hs⟩
  · exact ⟨d, rfl, h1, h2.trans hs⟩
  · exact ⟨d', rfl, h3, h4.trans hs⟩
  · exact ⟨d, rfl, h1, h2.trans hs⟩
theorem dF_set (b : Bool) {Z : List DL} {dT dU : Option (List I)} (h : Z.map nr = dF dT dU) {s s' : List I} (hs : dX b dT dU = some s) (d' : DL) (h1 : d'.name = nmT b) (h2 : d'.rows = s') : (Z.set (ixE b dT) d').map nr = dF (putT b s' dT) (putU b s' dU) := by
  rcases dF_cases h with ⟨rfl, rfl, rfl⟩ | ⟨_, d, rfl, rfl, rfl, e1, e2⟩ | ⟨_, d, rfl, rfl, rfl, e1, e2⟩ | ⟨_, _, d, d2, rfl, rfl, rfl, e1, e2, e3, e4⟩ <;> cases b <;> simp [dX] at hs <;> simp [nmT] at h1 <;> simp [dF, putT, putU, ixE, nr, *]
theorem dF_ins (b : Bool) {Z : List DL} {dT dU : Option (List I)} (h : Z.map nr = dF dT dU) (hs : dX b dT dU = none) (d' : DL) (h1 : d'.name = nmT b) (h2 : d'.rows = []) : (Z.take (ixE b dT) ++ d' :: Z.drop (ixE b dT)).map nr = dF (putT b [] dT) (putU b [] dU) := by
  rcases dF_cases h with ⟨rfl, rfl, rfl⟩ | ⟨_, d, rfl, rfl, rfl, e1, e2⟩ | ⟨_, d, rfl, rfl, rfl, e1, e2⟩ | ⟨_, _, d, d2, rfl, rfl, rfl, e1, e2, e3, e4⟩ <;> cases b <;> simp [dX] at hs <;> simp [nmT] at h1 <;> simp [dF, putT, putU, ixE, nr, *]
theorem cmp_tt : Lib.compareBytes [116] [116] = 0 := by decide +kernel
theorem cmp_uu : Lib.compareBytes [117] [117] = 0 := by decide +kernel
theorem cmp_tu : Lib.compareBytes [116] [117] = -1 := by decide +kernel
theorem cmp_ut : Lib.compareBytes [117] [116] = 1 := by decide +kernel
theorem bt_find (b : Bool) {Z : List DL} {dT dU : Option (List I)} (h : Z.map nr = dF dT dU) (A : Option Addr) (n c : Nat) (w : World) (hS : Sl 2 dlc w A n c Z) :
    Calls Tryz.prog 64 #[.slice A n c, .string ⟨(nmT b).toArray⟩, .func (.func 65) #[] #[]] w fun e w' => e = .returned (.tuple #[.int .i64 (ixE b dT : Int), .bool (dX b dT dU).isSome]) ∧ Ev w w' := by
  obtain rfl := hS.len
  rcases dF_cases h with ⟨rfl, rfl, rfl⟩ | ⟨_, d, rfl, rfl, rfl, e1, e2⟩ | ⟨_, d, rfl, rfl, rfl, e1, e2⟩ | ⟨_, _, d, d2, rfl, rfl, rfl, e1, e2, e3, e4⟩ <;> cases b
  · exact bt_search0 _ A c w hS
  · exact bt_search0 _ A c w hS
  · exact bt_search1 d [117] (-1) A c w hS (by rw [e1]; exact cmp_tu)
  · exact bt_search1 d [116] 0 A c w hS (by rw [e1]; exact cmp_tt)
  · exact bt_search1 d [117] 0 A c w hS (by rw [e1]; exact cmp_uu)
  · exact bt_search1 d [116] 1 A c w hS (by rw [e1]; exact cmp_ut)
  · exact bt_search2_1 d d2 [117] A c w hS (by rw [e1]; exact cmp_tu) (by rw [e3]; exact cmp_uu)
  · exact bt_search2_0 d d2 [116] A c w hS (by rw [e1]; exact cmp_tt) (by rw [e3]; exact cmp_ut)
theorem bt_ins (b : Bool) {Z : List DL} {dT dU : Option (List I)} (h : Z.map nr = dF dT dU) (hs : dX b dT dU = none) (base : Nat) (A : Option Addr) (n c xb : Nat) (x : DL) (w : World) (hO : Ow 54 2 dlc base w (.slice A n c) Z) (hp : OwP PvT w (.slice A n c)) (hx : Bx 54 xb #[.string ⟨x.name.toArray⟩, .slice x.A x.rows.length x.cap] w) (hne : xb ∉ foot (.slice A n c)) (hn : Z = [] → A = none ∧ n = 0 ∧ c = 0) (hbase : base ≤ w.heap.size) :
    Calls Tryz.prog 66 #[.slice A n c, .int .i64 (ixE b dT : Int), .slice (some ⟨xb, 0, none⟩) 1 1] w (InsOut base (.slice A n c) (Z.take (ixE b dT) ++ x :: Z.drop (ixE b dT)) w) := by
  have hsl : Sl 2 dlc w (some ⟨xb, 0, none⟩) 1 1 [x] := ⟨rfl, Nat.le_refl _, by omega, (fun e => by cases e), fun _ => ⟨xb, 0, rfl, hx.lt, fun i y hy j u hu => by
    have hi : i = 0 := by have := (List.getElem?_eq_some_iff.1 hy).1; simp at this; omega
    subst hi
    simp at hy
    subst hy
    rw [show (0 : Nat) + 0 * 2 + j = j by omega, hx.cell j]
    unfold dlc at hu
    simpa using hu⟩⟩
  have hform := hO.form encDL
  rcases dF_cases h with ⟨rfl, rfl, rfl⟩ | ⟨_, d, rfl, rfl, rfl, e4, e5⟩ | ⟨_, d, rfl, rfl, rfl, e4, e5⟩ | ⟨_, _, d, d2, rfl, rfl, rfl, e4, e5, e6, e7⟩
  · obtain ⟨rfl, rfl, rfl⟩ := hn rfl
    have h9 := bt_ins0 base xb x w hsl hbase
    cases b <;> exact h9
  · cases b
    · obtain ⟨A1, c1, e, hS, hA⟩ := hform
      injection e with e1 e2 e3
      subst e1; subst e3
      obtain rfl : n = 1 := e2
      obtain ⟨g, off, rfl, _⟩ := hS.rd (by simp)
      have h7 := (hA _ rfl).2.2.2.1
      injection h7 with _ h7 _
      subst h7
      exact bt_insEnd base g 1 c xb [d] x w hO hp hsl hbase (by omega)
    · simp [dX] at hs
  · cases b
    · simp [dX] at hs
    · obtain ⟨A1, c1, e, hS, hA⟩ := hform
      injection e with e1 e2 e3
      subst e1; subst e3
      obtain rfl : n = 1 := e2
      obtain ⟨g, off, rfl, _⟩ := hS.rd (by simp)
      have h7 := (hA _ rfl).2.2.2.1
      injection h7 with _ h7 _
      subst h7
      by_cases hc : 1 + 1 ≤ c
      · exact bt_insRoom base g 1 c xb [d] x w hO hp hx (fun e => hne (mem_foot.2 (by rw [e]; rfl))) (by omega) hc (by omega)
      · exact bt_insGrow base g 1 c xb [d] x w hO hx (by omega) (by omega) (by omega) hbase
  · cases b <;> simp [dX] at hs
end Go.Proofs.YthpiobkghfdkkaaGreat

namespace Go.Proofs.YthpiobkghfdkkaaGreat
open Go.RowKit
set_option linter.unusedVariables false

theorem zok_len {n : Nat} {S : List I} (h : ZOk n S) : S.length ≤ n := by
  refine Nat.le_trans ?_ h.small
  have hi := h.items
  clear h
  induction S with
  | nil => exact Nat.le_refl _
  | cons x S ih =>
    have h1 := (ok_net (hi x List.mem_cons_self)).1
    have h2 := ih fun y hy => hi y (List.mem_cons_of_mem _ hy)
    rw [List.length_cons, absS_cons]
    omega
/-- What changes of a table come to. -/
def chS (b : Bool) (l : List CM) (f : List V → Int) : Int := ((l.filter fun x => decide (x.tab = nmT b)).map fun x => f x.row * oneE x.rem).sum
theorem chS_snoc (b b' : Bool) (l : List CM) (x : CM) (hx : x.tab = nmT b') (f : List V → Int) : chS b (l ++ [x]) f = chS b l f + (if b = b' then f x.row * oneE x.rem else 0) := by
  unfold chS
  rw [List.filter_append, List.map_append, List.sum_append]
  congr 1
  cases b <;> cases b' <;> simp [hx, nmT]
/-- The delta of a table, for these changes. -/
def DOk (b : Bool) (l : List CM) (d : Option (List I)) : Prop := match d with
  | none => ∀ x ∈ l, x.tab ≠ nmT b
  | some s => ZOk l.length s ∧ (∀ f, netS f s = chS b l f) ∧ (∃ x ∈ l, x.tab = nmT b)
theorem DOk.none_ (b : Bool) : DOk b [] none := fun x hx => by cases hx
theorem DOk.other {b b' : Bool} {l : List CM} {d : Option (List I)} {x : CM} (h : DOk b l d) (hx : x.tab = nmT b') (hb : b ≠ b') : DOk b (l ++ [x]) d := by
  have hne : x.tab ≠ nmT b := fun e => by
    rw [hx] at e
    cases b <;> cases b' <;> simp [nmT] at e hb
  cases d with
  | none =>
    intro y hy
    rcases List.mem_append.1 hy with hy | hy
    · exact h y hy
    · rw [List.mem_singleton.1 hy]; exact hne
  | some s =>
    obtain ⟨h1, h2, y, hy, he⟩ := h
    refine ⟨h1.more (by simp), fun f => ?_, y, List.mem_append_left _ hy, he⟩
    rw [h2, chS_snoc b b' l x hx f, if_neg hb, Int.add_zero]
theorem DOk.none_sum {b : Bool} {l : List CM} (h : ∀ x ∈ l, x.tab ≠ nmT b) (f : List V → Int) : chS b l f = 0 := by
  unfold chS
  rw [List.filter_eq_nil_iff.2 (fun x hx => by simpa using h x hx)]
  rfl
theorem DOk.step {b : Bool} {l : List CM} {d : Option (List I)} {x : CM} (h : DOk b l d) (hx : x.tab = nmT b) (hr : rightR x.row = true) (hl : l.length < 1000) : ∃ s', makeI (d.getD [] ++ [oneI x.row x.rem]) = (0, s') ∧ ZOk (l.length + 1) s' ∧ DOk b (l ++ [x]) (some s') := by
  have h0 : ZOk l.length (d.getD []) ∧ ∀ f, netS f (d.getD []) = chS b l f := by
    cases d with
    | none => exact ⟨ZOk.nil_ _, fun f => by rw [DOk.none_sum h f]; rfl⟩
    | some s => exact ⟨h.1, h.2.1⟩
  obtain ⟨s', h1, h2, h3, _⟩ := make_step h0.1 (by omega) x.row hr x.rem
  refine ⟨s', h1, h2, by rw [List.length_append]; exact h2, fun f => ?_, x, by simp, hx⟩
  rw [h3, h0.2, chS_snoc b b l x hx f, if_pos rfl]
theorem SetNew.grown {α : Type} {et : TypeId} {k base : Nat} {enc : α → List Value} {w w' : World} {v : Value} {Z : List α} {n0 : Nat} {l : List I} {A : Option Addr} {n cap : Nat} (h : SetNew n0 l w A n cap) (hO : Ow et k enc base w v Z) (hp : OwP PvT w v) (hb : But (foot v) w w') : SetNew n0 l w' A n cap := by
  obtain ⟨Y, hz, hl, h3⟩ := h
  exact ⟨Y, ⟨own_past hO hp hb hz.js fun x hx => ⟨1, jtal x, rfl, not_tal x⟩, fun z hzm => ⟨own_past hO hp hb (hz.rows z hzm).1 fun x hx => ⟨0, .int .i64 x.1, rfl, not_int _⟩, fun ad e => Nat.lt_of_lt_of_le ((hz.rows z hzm).2 ad e) hb.size⟩, fun ad e => Nat.lt_of_lt_of_le (hz.low ad e) hb.size, Nat.le_refl _⟩, hl, h3⟩
/-- How far deltas has come. -/
structure DlSt (w : World) (A : Option Addr) (n c : Nat) (Z : List DL) (wr : World) : Prop where
  own : Ow 54 2 dlc w.heap.size wr (.slice A n c) Z
  pv : OwP PvT wr (.slice A n c)
  each : ∀ d ∈ Z, SetNew w.heap.size d.rows wr d.A d.rows.length d.cap
  nil : Z = [] → A = none ∧ n = 0 ∧ c = 0
  ev : Ev w wr
theorem DlSt.start (w : World) : DlSt w none 0 0 [] w := ⟨Ow.nil_ _, OwP.none_ _ _ _ _, (fun d hd => by cases hd), fun _ => ⟨rfl, rfl, rfl⟩, Ev.refl _⟩
theorem DlSt.up {w wr wq : World} {A : Option Addr} {n c : Nat} {Z : List DL} (h : DlSt w A n c Z wr) (hE : Ev wr wq) : DlSt w A n c Z wq := ⟨h.own.ev hE, h.pv.ev h.own hE, fun d hd => (h.each d hd).ev hE, h.nil, h.ev.trans hE⟩
theorem DlSt.sl {w wr : World} {A : Option Addr} {n c : Nat} {Z : List DL} (h : DlSt w A n c Z wr) : Sl 2 dlc wr A n c Z := by
  obtain ⟨A1, c1, e, hS, _⟩ := h.own.form encDL
  injection e with e1 e2 e3
  subst e1; subst e2; subst e3
  exact hS
theorem DlSt.high {w wr : World} {A : Option Addr} {n c : Nat} {Z : List DL} (h : DlSt w A n c Z wr) : ∀ k ∈ foot (.slice A n c), w.heap.size ≤ k ∧ k < wr.heap.size := fun k hk => h.own.lt (mem_foot.1 hk)
theorem DlSt.ins {w wr w2 : World} {A : Option Addr} {n c i : Nat} {Z : List DL} {x : DL} {v2 : Value} (h : DlSt w A n c Z wr) (hx : SetNew w.heap.size x.rows wr x.A x.rows.length x.cap) (h1 : Ow 54 2 dlc w.heap.size w2 v2 (Z.take i ++ x :: Z.drop i)) (h2 : OwP PvT w2 v2) (hb : But (foot (.slice A n c)) wr w2) :
    ∃ g c2, v2 = .slice (some ⟨g, 0, none⟩) (Z.take i ++ x :: Z.drop i).length c2 ∧ DlSt w (some ⟨g, 0, none⟩) (Z.take i ++ x :: Z.drop i).length c2 (Z.take i ++ x :: Z.drop i) w2 := by
  have hE : Ev w w2 := ((But.of_ev h.ev).then hb).ev fun k hk => (h.high k hk).1
  obtain ⟨A1, c1, rfl, hS, hA⟩ := h1.form encDL
  have hpos : 0 < (Z.take i ++ x :: Z.drop i).length := by rw [List.length_append, List.length_cons]; omega
  obtain ⟨g, off, rfl, _⟩ := hS.rd hpos
  have h7 := (hA _ rfl).2.2.2.1
  injection h7 with _ h7 _
  subst h7
  refine ⟨g, c1, rfl, h1, h2, fun d hd => ?_, fun e => by simp at e, hE⟩
  have hm : d ∈ Z ∨ d = x := by
    rcases List.mem_append.1 hd with hd | hd
    · exact .inl (List.mem_of_mem_take hd)
    · rcases List.mem_cons.1 hd with hd | hd
      · exact .inr hd
      · exact .inl (List.mem_of_mem_drop hd)
  rcases hm with hm | rfl
  · exact (h.each d hm).grown h.own h.pv hb
  · exact hx.grown h.own h.pv hb
theorem DlSt.set {w wr : World} {g n c i : Nat} {Z : List DL} {d : DL} {S : List I} {A : Option Addr} {k : Nat} (h : DlSt w (some ⟨g, 0, none⟩) n c Z wr) (hd : Z[i]? = some d) (hS : SetNew w.heap.size S wr A S.length k) :
    DlSt w (some ⟨g, 0, none⟩) n c (Z.set i ⟨d.name, A, k, S⟩) (wr.setCell ⟨g, i * 2 + 1, none⟩ (.slice A S.length k)) := by
  have hb : But [g] wr (wr.setCell ⟨g, i * 2 + 1, none⟩ (.slice A S.length k)) := But.setCell _ _ (by simp)
  have hf : foot (.slice (some ⟨g, 0, none⟩) n c) = [g] := rfl
  refine ⟨Ow.set (x' := ⟨d.name, A, k, S⟩) (u := .slice A S.length k) encDL h.own hd (j := 1) (by omega) rfl, ?_, fun x hx => ?_, fun e => ?_, ((But.of_ev (K := [g]) h.ev).then hb).ev fun q hq => by simp at hq; rw [hq]; exact (h.high g (by rw [hf]; simp)).1⟩
  · intro g' hg' cs T q hh u hu
    simp only [Value.ownBlock, Option.some.injEq] at hg'
    subst hg'
    rcases h.own.2 with ⟨e, _⟩ | ⟨g2, cap2, cur, e, _, hg2, _⟩
    · cases e
    · injection e with e _ _
      injection e with e
      injection e with e _ _
      subst e
      have h2 := ow_set_heap (i * 2 + 1) (.slice A S.length k) hg2
      rw [h2] at hh
      injection hh with hh
      injection hh with hh _ _
      subst hh
      rw [Array.toList_setIfInBounds] at hu
      rcases List.mem_or_eq_of_mem_set hu with hu | hu
      · exact h.pv _ rfl _ _ _ hg2 u hu
      · subst hu
        exact .inr ⟨_, _, _, rfl⟩
  · rcases List.mem_or_eq_of_mem_set hx with hx | hx
    · exact (h.each x hx).grown h.own h.pv (hf ▸ hb)
    · subst hx
      exact hS.grown h.own h.pv (hf ▸ hb)
  · have h1 := congrArg List.length e
    rw [List.length_set] at h1
    have h2 := h.nil (List.eq_nil_of_length_eq_zero (by simpa using h1))
    cases h2.1
theorem DlSt.cells {w wr : World} {g n c i : Nat} {Z : List DL} {d : DL} (h : DlSt w (some ⟨g, 0, none⟩) n c Z wr) (hd : Z[i]? = some d) : g < wr.heap.size ∧ wr.cell? ⟨g, i * 2 + 1, none⟩ = some (.slice d.A d.rows.length d.cap) ∧ ∀ j, wr.frozen? ⟨g, j, none⟩ = false := by
  obtain ⟨A, c1, e, hS, hA⟩ := h.own.form encDL
  injection e with e1 e2 e3
  subst e1; subst e2; subst e3
  have hi := (List.getElem?_eq_some_iff.1 hd).1
  obtain ⟨b, off, e, hlt, hc⟩ := hS.rd (by omega)
  injection e with e
  injection e with e1 e2 _
  subst e1; subst e2
  have h2 := hc i d hd 1 _ rfl
  rw [Nat.zero_add] at h2
  exact ⟨hlt, h2, (hA _ rfl).2.2.2.2⟩
theorem ixE_le (b : Bool) {Z : List DL} {dT dU : Option (List I)} (h : Z.map nr = dF dT dU) (hs : dX b dT dU = none) : ixE b dT ≤ Z.length := by
  rcases dF_cases h with ⟨rfl, rfl, rfl⟩ | ⟨_, d, rfl, rfl, rfl, e1, e2⟩ | ⟨_, d, rfl, rfl, rfl, e1, e2⟩ | ⟨_, _, d, d2, rfl, rfl, rfl, e1, e2, e3, e4⟩ <;> cases b <;> simp [dX] at hs <;> simp [ixE]
/-- What deltas gives. -/
def DeltasOut (l : List CM) (w : World) (e : Ending) (w' : World) : Prop := ∃ (A : Option Addr) (n c : Nat) (Z : List DL) (dT dU : Option (List I)), e = .returned (.slice A n c) ∧ DlSt w A n c Z w' ∧ Z.map nr = dF dT dU ∧ DOk true l dT ∧ DOk false l dU

set_option maxRecDepth 100000 in
set_option maxHeartbeats 8000000 in
theorem bt_deltas {A : Option Addr} {n cap : Nat} {l : List CM} (w : World) (h : ChsAt w A n cap l) (hn : n ≤ 900) (ht : ∀ x ∈ l, (∃ q, x.tab = nmT q) ∧ rightR x.row = true) :
    Calls Tryz.prog 35 #[.slice A n cap] w (DeltasOut l w) := by
  have hmix : Tryz.prog.follows .mixedOrders = true := by kernel_rfl
  have hcl := h.sl.le
  have hcm := h.sl.max
  have HL := Lib.hid h.sl.len
  have H := Lib.hid h
  have HR := Lib.hid ht
  clear h ht
  go_enter Tryz.func35, Tryz.ntmps35
  go_wp2
  go_loopw [3, 10] (fun av iv wr => ∃ (A1 : Option Addr) (n1 c1 k : Nat) (Z : List DL) (dT dU : Option (List I)), av = .slice A1 n1 c1 ∧ iv = .int .i64 (k : Int) ∧ k ≤ n ∧ Hid (DlSt w A1 n1 c1 Z wr) ∧ Hid (Z.map nr = dF dT dU ∧ DOk true (l.take k) dT ∧ DOk false (l.take k) dU)) (fun _ iv _ => n - (intOf iv).toNat)
  case atStart => exact ⟨none, 0, 0, 0, [], none, none, rfl, rfl, Nat.zero_le _, Lib.hid (DlSt.start w), Lib.hid ⟨rfl, DOk.none_ _, DOk.none_ _⟩⟩
  case round =>
    obtain ⟨A1, n1, c1, k, Z, dT, dU, rfl, rfl, hk, HS, HD⟩ := hrel
    by_cases hlt : k < n
    · obtain ⟨y, hy⟩ := H.out.sl.at hlt
      obtain ⟨b, off, rfl, hb, c0, c1_, c2_⟩ := (H.out.ev HS.out.ev).cell hy
      obtain ⟨wx, hwx, hEx, hX⟩ : ∃ wx, wr.alloc (.cells #[.string ⟨y.tab.toArray⟩, .slice y.A y.row.length y.cap, .bool y.rem] 25) = wx ∧ Ev wr wx ∧ Bx 25 wr.heap.size #[.string ⟨y.tab.toArray⟩, .slice y.A y.row.length y.cap, .bool y.rem] wx := ⟨_, rfl, Ev.alloc _ _, Bx.new _ _ _⟩
      have hym := List.mem_of_getElem? hy
      obtain ⟨⟨q, hq⟩, hrr⟩ := HR.out y hym
      have HT : Hid (l.take (k + 1) = l.take k ++ [y]) := Lib.hid (by
        obtain ⟨hk2, e1⟩ := List.getElem?_eq_some_iff.1 hy
        rw [List.take_succ_eq_append_getElem hk2, e1])
      have hkl : (l.take k).length = k := by rw [List.length_take, HL.out]; omega
      have HDX : Hid (DOk q (l.take k) (dX q dT dU)) := Lib.hid (by cases q; exact HD.out.2.2; exact HD.out.2.1)
      obtain ⟨S', hmk, hz', hd'⟩ := HDX.out.step hq hrr (by omega)
      have HMK := Lib.hid hmk
      have HZ' := Lib.hid hz'
      have HOK : Hid (DOk true (l.take k ++ [y]) (putT q S' dT) ∧ DOk false (l.take k ++ [y]) (putU q S' dU)) := Lib.hid (by
        cases q
        · exact ⟨HD.out.2.1.other hq (by simp), hd'⟩
        · exact ⟨hd', HD.out.2.2.other hq (by simp)⟩)
      have HQ := Lib.hid hq
      have HRR := Lib.hid hrr
      have HSTY : Hid (∀ w1, Ev w w1 → CmAt w1 y) := Lib.hid (fun w1 hE => (H.out.each y hym).ev hE)
      have HIT := Lib.hid (fun w1 => bt_item ⟨y.tab.toArray⟩ y.rem y.A y.row.length y.cap w1)
      have HFD := Lib.hid (fun w1 (hE : Ev wr w1) => bt_find q HD.out.1 A1 n1 c1 w1 (HS.out.up hE).sl)
      rw [← HQ.out] at HFD
      have HX := Lib.hid hX
      have HEX := Lib.hid hEx
      have HSX := Lib.hid (HS.out.up hEx)
      have HKL := Lib.hid hkl
      obtain ⟨⟨p0, p1, p2⟩, _⟩ := hX.three
      have i1 : (0 : Int) ≤ (k : Int) := by omega
      have i3 : (k : Int) < (n : Int) := by omega
      have HCAR : Hid (((dX q dT dU).getD []).length ≤ 100000 ∧ (∀ x ∈ (dX q dT dU).getD [] ++ [oneI y.row y.rem], TallyAs x.2.1 x.2.2)) := Lib.hid (by
        have h0 : ZOk k ((dX q dT dU).getD []) := by
          have h9 := HDX.out
          cases hdx : dX q dT dU with
          | none => exact ZOk.nil_ _
          | some s => rw [hdx] at h9; have := h9.1; rwa [hkl] at this
        refine ⟨?_, fun x hx => ?_⟩
        · have h1 := zok_len h0
          omega
        · rcases List.mem_append.1 hx with hx | hx
          · exact h0.tallies x hx
          · rw [List.mem_singleton.1 hx]
            exact TallyAs.part (oneI_part _ _).1 (oneI_part _ _).2)
      clear hy hym hq hrr hkl hmk hz' hd' hX hEx
      cases hok : dX q dT dU with
      | some s0 =>
        rw [hok] at HFD HMK HCAR HDX
        simp only [Option.isSome_some, Option.getD_some] at HFD HMK HCAR
        obtain ⟨d, hd, hdn, hdr⟩ := dF_get q HD.out.1 hok
        obtain ⟨i, hi⟩ : ∃ i, i = ixE q dT := ⟨_, rfl⟩
        rw [← hi] at HFD hd
        have HI := Lib.hid hi
        have HDI := Lib.hid hd
        have HDN := Lib.hid (And.intro hdn hdr)
        have HNR : Hid (Z.map nr = dF dT dU ∧ dX q dT dU = some s0) := Lib.hid ⟨HD.out.1, hok⟩
        have HSML : Hid (d.rows.length ≤ 100000 ∧ (∀ x ∈ d.rows ++ [oneI y.row y.rem], TallyAs x.2.1 x.2.2) ∧ makeI (d.rows ++ [oneI y.row y.rem]) = (0, S')) := Lib.hid (by rw [hdr]; exact ⟨HCAR.out.1, HCAR.out.2, HMK.out⟩)
        have hne0 : Z ≠ [] := fun e => by rw [e] at hd; cases hd
        obtain ⟨g, hA1⟩ : ∃ g, A1 = some ⟨g, 0, none⟩ := by
          obtain ⟨A9, c9, e9, hS9, hA9⟩ := HS.out.own.form encDL
          injection e9 with e1 e2 e3
          subst e1; subst e3
          obtain ⟨g, off9, e8, _⟩ := hS9.rd (List.length_pos_iff.2 hne0)
          have h7 := (hA9 _ e8).2.2.2.1
          injection h7 with _ h7 _
          subst h7
          exact ⟨g, e8⟩
        subst hA1
        clear hd hdn hdr hok hne0 hi
        go_upto_region 8 with (first
          | ((with_reducible refine (HFD.out _ HEX.out).mono ?_); rintro e w4 ⟨rfl, hE4⟩; have E4 := Lib.hid hE4; clear hE4 p0 p1 p2; obtain ⟨⟨p0, p1, p2⟩, _⟩ := (HX.out.ev E4.out).three))
        have HD4 := Lib.hid (HSX.out.up E4.out)
        have HX4 := Lib.hid (HX.out.ev E4.out)
        have HY4 := Lib.hid (HSTY.out _ HD4.out.ev)
        obtain ⟨m, hm⟩ : ∃ m, m = n1 := ⟨_, rfl⟩
        obtain ⟨c2, hc2⟩ : ∃ c2, c2 = c1 := ⟨_, rfl⟩
        rw [← hm, ← hc2] at HD4
        rw [← hm, ← hc2]
        clear p0 p1 p2
        obtain ⟨hg, c1, hfz_⟩ := HD4.out.cells HDI.out
        have i2n : i < m := by have h1 := (List.getElem?_eq_some_iff.1 HDI.out).1; have h2 := HD4.out.sl.len; omega
        have i2 : (i : Int) < (m : Int) := by omega
        have hm2 := HD4.out.sl.le
        have hm3 := HD4.out.sl.max
        have HSM := Lib.hid (fun (B : Option Addr) (n1 c1_ : Nat) w1 (hE : Ev w4 w1) (hB : SetIn [oneI y.row y.rem] w1 B n1 c1_) => bt_sum w1 (((HD4.out.each d (List.mem_of_getElem? HDI.out)).ev hE).in_) hB (HSML.out.1) (by have := hB.len; simp at this; omega) HSML.out.2.1 HSML.out.2.2)
        unfold SetOutN at HSM
        have HWS : Hid (w.heap.size ≤ w4.heap.size) := Lib.hid HD4.out.ev.size
        refine wp_region_lastE hmix [fun v _ => v = .slice (some ⟨g, 0, none⟩) m c2, fun v _ => v = .int .i64 (i : Int), fun v _ => v = .slice (some ⟨g, 0, none⟩) m c2, fun v _ => v = .int .i64 (i : Int), fun v _ => v = .pointer (some ⟨g, i * 2, none⟩), fun v _ => v = .pointer (some ⟨g, i * 2 + 1, none⟩), fun v _ => v = .slice d.A d.rows.length d.cap, fun v _ => v = .agg #[.string ⟨y.tab.toArray⟩, .slice y.A y.row.length y.cap, .bool y.rem], fun v _ => v = .agg #[.slice y.A y.row.length y.cap, .complex .f64 (fl (oneP y.rem)) (fl (oneQ y.rem))], SetF [oneI y.row y.rem], SetNF w.heap.size S', fun v _ => v = .pointer (some ⟨g, i * 2, none⟩), fun v _ => v = .pointer (some ⟨g, i * 2 + 1, none⟩)]
          45 rfl 13 _ rfl rfl (by kernel_rfl) (by kernel_rfl) ⟨mono_eq _, mono_eq _, mono_eq _, mono_eq _, mono_eq _, mono_eq _, mono_eq _, mono_eq _, mono_eq _, SetF.mono _, SetNF.mono _ _, mono_eq _, mono_eq _, trivial⟩ (opsb_start ?_) ?_
        · refine opsb_cons 0 ?_ (opsb_cons 1 ?_ (opsb_cons 2 ?_ (opsb_cons 3 ?_ (opsb_cons 4 ?_ (opsb_cons 5 ?_ (opsb_cons 6 ?_ (opsb_cons 7 ?_ (opsb_cons 8 ?_ (opsb_cons 9 ?_ (opsb_cons 10 ?_ (opsb_cons 11 ?_ (opsb_cons 12 ?_ (opsb_nil 13 _ (by omega))))))))))))))
          · refine op_value fun a wq c => ⟨(wanted_plain rfl), _, run_move _ rfl wq, (c.was 3 (by kernel_rfl) rfl)⟩
          · refine op_value fun a wq c => ⟨(wanted_plain rfl), _, run_move _ rfl wq, (c.was 6 (by kernel_rfl) rfl)⟩
          · refine op_value fun a wq c => ⟨(wanted_plain rfl), _, run_move _ rfl wq, (c.was 3 (by kernel_rfl) rfl)⟩
          · refine op_value fun a wq c => ⟨(wanted_plain rfl), _, run_move _ rfl wq, (c.was 6 (by kernel_rfl) rfl)⟩
          · refine op_value fun a wq c => ⟨(wanted_plain rfl), .pointer (some ⟨g, i * 2, none⟩), ?_, rfl⟩
            have e32 : a.eval (.tmp 32) = .slice (some ⟨g, 0, none⟩) m c2 := (c.new 2 32 (by kernel_rfl) (by kernel_rfl))
            have e33 : a.eval (.tmp 33) = .int .i64 (i : Int) := (c.new 3 33 (by kernel_rfl) (by kernel_rfl))
            generalize a.eval = ρ at e32 e33 ⊢
            simp [execOp, e32, e33, go_sem, i2]
          · refine op_value fun a wq c => ⟨(wanted_plain rfl), .pointer (some ⟨g, i * 2 + 1, none⟩), ?_, rfl⟩
            have e34 : a.eval (.tmp 34) = .pointer (some ⟨g, i * 2, none⟩) := (c.new 4 34 (by kernel_rfl) (by kernel_rfl))
            generalize a.eval = ρ at e34 ⊢
            simp [execOp, e34, go_sem]
          · refine op_value fun a wq c => ⟨(wanted_plain rfl), _, ?_, rfl⟩
            have e_0 : a.eval (.tmp 35) = .pointer (some ⟨g, i * 2 + 1, none⟩) := (c.new 5 35 (by kernel_rfl) (by kernel_rfl))
            have hc := (c.ev.cell (p := ⟨g, i * 2 + 1, none⟩) hg).trans c1
            generalize a.eval = ρ at e_0 ⊢
            simp [execOp, e_0, hc, go_sem]
          · refine op_value fun a wq c => ⟨(wanted_plain rfl), _, run_load_chg y rfl (c.was 5 (by kernel_rfl) rfl) (((HX4.out.ev c.ev).three).1.1) (((HX4.out.ev c.ev).three).1.2.1) (((HX4.out.ev c.ev).three).1.2.2), rfl⟩
          · refine op_call fun a wq c => ⟨(wanted_plain rfl), 63, #[.agg #[.string ⟨y.tab.toArray⟩, .slice y.A y.row.length y.cap, .bool y.rem]], ?_, ?_⟩
            · rw [run_call 63 _ _ rfl (by kernel_rfl)]
              have e37 : a.eval (.tmp 37) = .agg #[.string ⟨y.tab.toArray⟩, .slice y.A y.row.length y.cap, .bool y.rem] := (c.new 7 37 (by kernel_rfl) (by kernel_rfl))
              simp [e37]
            · refine (HIT.out wq).mono ?_
              rintro e wp ⟨rfl, hE_⟩
              exact ⟨_, rfl, hE_, rfl⟩
          · refine op_makes fun a wq c => ?_
            have e_0 : a.eval (.tmp 38) = .agg #[.slice y.A y.row.length y.cap, .complex .f64 (fl (oneP y.rem)) (fl (oneQ y.rem))] := (c.new 8 38 (by kernel_rfl) (by kernel_rfl))
            refine ⟨(wanted_plain rfl), .slice (some ⟨wq.heap.size, 0, none⟩) 1 1, wq.alloc (.cells #[.slice y.A y.row.length y.cap, .complex .f64 (fl (oneP y.rem)) (fl (oneQ y.rem))] 62), ?_, Ev.alloc _ _, _, _, _, rfl, item_one y wq (HY4.out.ev c.ev)⟩
            generalize a.eval = ρ at e_0 ⊢
            simp [execOp, e_0, go_sem]
          · refine op_call fun a wq c => ?_
            obtain ⟨B, n1, c1_, e_1, hB⟩ : SetF [oneI y.row y.rem] (a.eval (.tmp 39)) wq := (c.new 9 39 (by kernel_rfl) (by kernel_rfl))
            have e_0 : a.eval (.tmp 36) = .slice d.A d.rows.length d.cap := (c.new 6 36 (by kernel_rfl) (by kernel_rfl))
            refine ⟨(wanted_plain rfl), 59, #[.slice d.A d.rows.length d.cap, .slice B n1 c1_], ?_, ?_⟩
            · rw [run_call 59 _ _ rfl (by kernel_rfl)]
              simp [e_0, e_1]
            · refine (HSM.out B n1 c1_ wq c.ev hB).mono ?_
              rintro e wp ⟨A', c', rfl, hS', hE_⟩
              exact ⟨_, rfl, hE_, A', c', rfl, hS'.less (Nat.le_trans HWS.out c.ev.size)⟩
          · refine op_value fun a wq c => ⟨(wanted_plain rfl), .pointer (some ⟨g, i * 2, none⟩), ?_, rfl⟩
            have e30 : a.eval (.tmp 30) = .slice (some ⟨g, 0, none⟩) m c2 := (c.new 0 30 (by kernel_rfl) (by kernel_rfl))
            have e31 : a.eval (.tmp 31) = .int .i64 (i : Int) := (c.new 1 31 (by kernel_rfl) (by kernel_rfl))
            generalize a.eval = ρ at e30 e31 ⊢
            simp [execOp, e30, e31, go_sem, i2]
          · refine op_value fun a wq c => ⟨(wanted_plain rfl), .pointer (some ⟨g, i * 2 + 1, none⟩), ?_, rfl⟩
            have e41 : a.eval (.tmp 41) = .pointer (some ⟨g, i * 2, none⟩) := (c.new 11 41 (by kernel_rfl) (by kernel_rfl))
            generalize a.eval = ρ at e41 ⊢
            simp [execOp, e41, go_sem]
        intro s w6 hE hold hnew
        have f0 : s 0 = .slice (some ⟨b, off, none⟩) n cap := hold 0 (by kernel_rfl)
        have f1 : s 1 = undef := hold 1 (by kernel_rfl)
        have f2 : s 2 = .slice none 0 0 := hold 2 (by kernel_rfl)
        have f3 : s 3 = .slice (some ⟨g, 0, none⟩) m c2 := hold 3 (by kernel_rfl)
        have f4 : s 4 = undef := hold 4 (by kernel_rfl)
        have f5 : s 5 = .pointer (some ⟨wr.heap.size, 0, none⟩) := hold 5 (by kernel_rfl)
        have f6 : s 6 = .int .i64 (i : Int) := hold 6 (by kernel_rfl)
        have f8 : s 8 = .slice (some ⟨b, off, none⟩) n cap := hold 8 (by kernel_rfl)
        have f9 : s 9 = .int .i64 (n : Int) := hold 9 (by kernel_rfl)
        have f10 : s 10 = .int .i64 (k : Int) := hold 10 (by kernel_rfl)
        have f44 : s 44 = undef := hold 44 (by kernel_rfl)
        have f30 : s 30 = .slice (some ⟨g, 0, none⟩) m c2 := hnew 0 30 (by omega) (by kernel_rfl)
        have f31 : s 31 = .int .i64 (i : Int) := hnew 1 31 (by omega) (by kernel_rfl)
        have f32 : s 32 = .slice (some ⟨g, 0, none⟩) m c2 := hnew 2 32 (by omega) (by kernel_rfl)
        have f33 : s 33 = .int .i64 (i : Int) := hnew 3 33 (by omega) (by kernel_rfl)
        have f34 : s 34 = .pointer (some ⟨g, i * 2, none⟩) := hnew 4 34 (by omega) (by kernel_rfl)
        have f35 : s 35 = .pointer (some ⟨g, i * 2 + 1, none⟩) := hnew 5 35 (by omega) (by kernel_rfl)
        have f36 : s 36 = .slice d.A d.rows.length d.cap := hnew 6 36 (by omega) (by kernel_rfl)
        have f37 : s 37 = .agg #[.string ⟨y.tab.toArray⟩, .slice y.A y.row.length y.cap, .bool y.rem] := hnew 7 37 (by omega) (by kernel_rfl)
        have f38 : s 38 = .agg #[.slice y.A y.row.length y.cap, .complex .f64 (fl (oneP y.rem)) (fl (oneQ y.rem))] := hnew 8 38 (by omega) (by kernel_rfl)
        have f41 : s 41 = .pointer (some ⟨g, i * 2, none⟩) := hnew 11 41 (by omega) (by kernel_rfl)
        have f42 : s 42 = .pointer (some ⟨g, i * 2 + 1, none⟩) := hnew 12 42 (by omega) (by kernel_rfl)
        obtain ⟨A', c', f40, hS'⟩ := (hnew 10 40 (by omega) (by kernel_rfl) : SetNF w.heap.size S' (s 40) w6)
        have hcell_ := (hE.cell (p := ⟨g, i * 2 + 1, none⟩) hg).trans c1
        have hfz := (hE.frozen (p := ⟨g, i * 2 + 1, none⟩) hg).trans (hfz_ _)
        refine ⟨wanted_plain rfl, wp_of_skip (w' := w6.setCell ⟨g, i * 2 + 1, none⟩ (.slice A' S'.length c')) ?_ ?_⟩
        · change (execOp (Act.eval ⟨#[s 0, s 1, s 2, s 3, s 4, s 5, s 6, s 7, s 8, s 9, s 10, s 11, s 12, s 13, s 14, s 15, s 16, s 17, s 18, s 19, s 20, s 21, s 22, s 23, s 24, s 25, s 26, s 27, s 28, s 29, s 30, s 31, s 32, s 33, s 34, s 35, s 36, s 37, s 38, s 39, s 40, s 41, s 42, s 43, s 44], _⟩) ⟨none, .store 41 (.tmp 42) (.tmp 40), _, _, _, _⟩).run _ _ = _
          simp [execOp, f42, f40, go_sem, hcell_, hfz]
        change Exit.inBlock _ _ .normal ⟨#[s 0, s 1, s 2, s 3, s 4, s 5, s 6, s 7, s 8, s 9, s 10, s 11, s 12, s 13, s 14, s 15, s 16, s 17, s 18, s 19, s 20, s 21, s 22, s 23, s 24, s 25, s 26, s 27, s 28, s 29, s 30, s 31, s 32, s 33, s 34, s 35, s 36, s 37, s 38, s 39, s 40, s 41, s 42, s 43, s 44], _⟩ _
        simp only [f0, f1, f2, f3, f4, f5, f6, f8, f9, f10, f44, f30, f31, f32, f33, f34, f35, f36, f37, f38, f41, f42]
        clear hold hnew
        generalize s 7 = u7
        generalize s 11 = u11
        generalize s 12 = u12
        generalize s 13 = u13
        generalize s 14 = u14
        generalize s 15 = u15
        generalize s 16 = u16
        generalize s 17 = u17
        generalize s 18 = u18
        generalize s 19 = u19
        generalize s 20 = u20
        generalize s 21 = u21
        generalize s 22 = u22
        generalize s 23 = u23
        generalize s 24 = u24
        generalize s 25 = u25
        generalize s 26 = u26
        generalize s 27 = u27
        generalize s 28 = u28
        generalize s 29 = u29
        generalize s 43 = u43
        have HD6 := Lib.hid ((HD4.out.up hE).set HDI.out hS')
        clear hS' hcell_ hfz hE hg c1 hfz_
        go_wp2
        go_roundw
        case rel => exact ⟨some ⟨g, 0, none⟩, m, c2, k + 1, _, putT q S' dT, putU q S' dU, rfl, by go_num, by omega, HD6, Lib.hid ⟨by rw [HI.out]; exact dF_set q HNR.out.1 HNR.out.2 ⟨d.name, A', c', S'⟩ HDN.out.1 rfl, by rw [HT.out]; exact HOK.out.1, by rw [HT.out]; exact HOK.out.2⟩⟩
        case measure => simp [intOf]; omega
      | none =>
        rw [hok] at HFD HMK HCAR HDX
        simp only [Option.isSome_none, Option.getD_none] at HFD HMK HCAR
        have HHK := Lib.hid hok
        have HINS := Lib.hid (fun (xb : Nat) w1 (hE : Ev wr w1) (hx : Bx 54 xb #[.string ⟨y.tab.toArray⟩, .slice none 0 0] w1) (hne : wr.heap.size ≤ xb) => bt_ins q HD.out.1 hok w.heap.size A1 n1 c1 xb ⟨y.tab, none, 0, []⟩ w1 (HS.out.up hE).own (HS.out.up hE).pv hx (fun hm => by have := (HS.out.high _ hm).2; omega) HS.out.nil (HS.out.up hE).ev.size)
        obtain ⟨i, hi⟩ : ∃ i, i = ixE q dT := ⟨_, rfl⟩
        rw [← hi] at HFD HINS
        have HI := Lib.hid hi
        clear hok hi
        go_upto_region 8 with (first
          | ((with_reducible refine (HFD.out _ HEX.out).mono ?_); rintro e w3 ⟨rfl, hE3⟩; have E3 := Lib.hid hE3; clear hE3 p0 p1 p2; obtain ⟨⟨p0, p1, p2⟩, _⟩ := (HX.out.ev E3.out).three))
        refine (HINS.out _ _ ((HEX.out.trans E3.out).trans (Ev.alloc _ _)) (Bx.new _ _ _) (HEX.out.trans E3.out).size).mono ?_
        rintro e w4 ⟨v4, rfl, hO4, hP4, hB4⟩
        obtain ⟨g, c2, rfl, hd4⟩ := (HSX.out.up (E3.out.trans (Ev.alloc _ _))).ins (x := ⟨y.tab, none, 0, []⟩) (SetNew.nil_ _ _) hO4 hP4 hB4
        have HD4 := Lib.hid hd4
        have HB4 := Lib.hid hB4
        have HL4 := Lib.hid hd4.sl.len
        obtain ⟨m, hm⟩ : ∃ m, m = (Z.take i ++ (⟨y.tab, none, 0, []⟩ : DL) :: Z.drop i).length := ⟨_, rfl⟩
        rw [← hm] at HD4 HL4
        rw [← hm]
        clear hO4 hP4 hd4 hB4 hm
        go_upto_region 8 with fail
        have HX4 : Hid (Bx 25 wr.heap.size #[.string ⟨y.tab.toArray⟩, .slice y.A y.row.length y.cap, .bool y.rem] w4) := Lib.hid ((HX.out.ev (E3.out.trans (Ev.alloc _ _))).but HB4.out (fun hm => by have := (HS.out.high _ hm).2; omega))
        have HY4 := Lib.hid (HSTY.out _ HD4.out.ev)
        obtain ⟨d, hd⟩ : ∃ d : DL, d = ⟨y.tab, none, 0, []⟩ := ⟨_, rfl⟩
        obtain ⟨ZZ, hZZ⟩ : ∃ ZZ : List DL, ZZ = Z.take i ++ (⟨y.tab, none, 0, []⟩ : DL) :: Z.drop i := ⟨_, rfl⟩
        rw [← hZZ] at HD4
        have hil : i ≤ Z.length := by
          rw [HI.out]
          exact ixE_le q HD.out.1 HHK.out
        have HDI : Hid (ZZ[i]? = some d) := Lib.hid (by
          rw [hZZ, hd, List.getElem?_append_right (by rw [List.length_take]; omega), List.length_take, Nat.min_eq_left hil, Nat.sub_self]
          rfl)
        have HDN : Hid (d.name = nmT q ∧ d.rows = []) := Lib.hid (by rw [hd]; exact ⟨HQ.out, rfl⟩)
        have HNR : Hid (ZZ.map nr = dF (putT q [] dT) (putU q [] dU) ∧ dX q (putT q [] dT) (putU q [] dU) = some [] ∧ ixE q (putT q [] dT) = ixE q dT) := Lib.hid ⟨by rw [hZZ, HI.out]; exact dF_ins q HD.out.1 HHK.out _ HQ.out rfl, by cases q <;> rfl, by cases q <;> rfl⟩
        have HSML : Hid (d.rows.length ≤ 100000 ∧ (∀ x ∈ d.rows ++ [oneI y.row y.rem], TallyAs x.2.1 x.2.2) ∧ makeI (d.rows ++ [oneI y.row y.rem]) = (0, S')) := Lib.hid (by rw [hd]; exact ⟨HCAR.out.1, HCAR.out.2, HMK.out⟩)
        clear p0 p1 p2 hd hZZ hil HL4
        obtain ⟨hg, c1, hfz_⟩ := HD4.out.cells HDI.out
        have i2n : i < m := by have h1 := (List.getElem?_eq_some_iff.1 HDI.out).1; have h2 := HD4.out.sl.len; omega
        have i2 : (i : Int) < (m : Int) := by omega
        have hm2 := HD4.out.sl.le
        have hm3 := HD4.out.sl.max
        have HSM := Lib.hid (fun (B : Option Addr) (n1 c1_ : Nat) w1 (hE : Ev w4 w1) (hB : SetIn [oneI y.row y.rem] w1 B n1 c1_) => bt_sum w1 (((HD4.out.each d (List.mem_of_getElem? HDI.out)).ev hE).in_) hB (HSML.out.1) (by have := hB.len; simp at this; omega) HSML.out.2.1 HSML.out.2.2)
        unfold SetOutN at HSM
        have HWS : Hid (w.heap.size ≤ w4.heap.size) := Lib.hid HD4.out.ev.size
        refine wp_region_lastE hmix [fun v _ => v = .slice (some ⟨g, 0, none⟩) m c2, fun v _ => v = .int .i64 (i : Int), fun v _ => v = .slice (some ⟨g, 0, none⟩) m c2, fun v _ => v = .int .i64 (i : Int), fun v _ => v = .pointer (some ⟨g, i * 2, none⟩), fun v _ => v = .pointer (some ⟨g, i * 2 + 1, none⟩), fun v _ => v = .slice d.A d.rows.length d.cap, fun v _ => v = .agg #[.string ⟨y.tab.toArray⟩, .slice y.A y.row.length y.cap, .bool y.rem], fun v _ => v = .agg #[.slice y.A y.row.length y.cap, .complex .f64 (fl (oneP y.rem)) (fl (oneQ y.rem))], SetF [oneI y.row y.rem], SetNF w.heap.size S', fun v _ => v = .pointer (some ⟨g, i * 2, none⟩), fun v _ => v = .pointer (some ⟨g, i * 2 + 1, none⟩)]
          45 rfl 13 _ rfl rfl (by kernel_rfl) (by kernel_rfl) ⟨mono_eq _, mono_eq _, mono_eq _, mono_eq _, mono_eq _, mono_eq _, mono_eq _, mono_eq _, mono_eq _, SetF.mono _, SetNF.mono _ _, mono_eq _, mono_eq _, trivial⟩ (opsb_start ?_) ?_
        · refine opsb_cons 0 ?_ (opsb_cons 1 ?_ (opsb_cons 2 ?_ (opsb_cons 3 ?_ (opsb_cons 4 ?_ (opsb_cons 5 ?_ (opsb_cons 6 ?_ (opsb_cons 7 ?_ (opsb_cons 8 ?_ (opsb_cons 9 ?_ (opsb_cons 10 ?_ (opsb_cons 11 ?_ (opsb_cons 12 ?_ (opsb_nil 13 _ (by omega))))))))))))))
          · refine op_value fun a wq c => ⟨(wanted_plain rfl), _, run_move _ rfl wq, (c.was 3 (by kernel_rfl) rfl)⟩
          · refine op_value fun a wq c => ⟨(wanted_plain rfl), _, run_move _ rfl wq, (c.was 6 (by kernel_rfl) rfl)⟩
          · refine op_value fun a wq c => ⟨(wanted_plain rfl), _, run_move _ rfl wq, (c.was 3 (by kernel_rfl) rfl)⟩
          · refine op_value fun a wq c => ⟨(wanted_plain rfl), _, run_move _ rfl wq, (c.was 6 (by kernel_rfl) rfl)⟩
          · refine op_value fun a wq c => ⟨(wanted_plain rfl), .pointer (some ⟨g, i * 2, none⟩), ?_, rfl⟩
            have e32 : a.eval (.tmp 32) = .slice (some ⟨g, 0, none⟩) m c2 := (c.new 2 32 (by kernel_rfl) (by kernel_rfl))
            have e33 : a.eval (.tmp 33) = .int .i64 (i : Int) := (c.new 3 33 (by kernel_rfl) (by kernel_rfl))
            generalize a.eval = ρ at e32 e33 ⊢
            simp [execOp, e32, e33, go_sem, i2]
          · refine op_value fun a wq c => ⟨(wanted_plain rfl), .pointer (some ⟨g, i * 2 + 1, none⟩), ?_, rfl⟩
            have e34 : a.eval (.tmp 34) = .pointer (some ⟨g, i * 2, none⟩) := (c.new 4 34 (by kernel_rfl) (by kernel_rfl))
            generalize a.eval = ρ at e34 ⊢
            simp [execOp, e34, go_sem]
          · refine op_value fun a wq c => ⟨(wanted_plain rfl), _, ?_, rfl⟩
            have e_0 : a.eval (.tmp 35) = .pointer (some ⟨g, i * 2 + 1, none⟩) := (c.new 5 35 (by kernel_rfl) (by kernel_rfl))
            have hc := (c.ev.cell (p := ⟨g, i * 2 + 1, none⟩) hg).trans c1
            generalize a.eval = ρ at e_0 ⊢
            simp [execOp, e_0, hc, go_sem]
          · refine op_value fun a wq c => ⟨(wanted_plain rfl), _, run_load_chg y rfl (c.was 5 (by kernel_rfl) rfl) (((HX4.out.ev c.ev).three).1.1) (((HX4.out.ev c.ev).three).1.2.1) (((HX4.out.ev c.ev).three).1.2.2), rfl⟩
          · refine op_call fun a wq c => ⟨(wanted_plain rfl), 63, #[.agg #[.string ⟨y.tab.toArray⟩, .slice y.A y.row.length y.cap, .bool y.rem]], ?_, ?_⟩
            · rw [run_call 63 _ _ rfl (by kernel_rfl)]
              have e37 : a.eval (.tmp 37) = .agg #[.string ⟨y.tab.toArray⟩, .slice y.A y.row.length y.cap, .bool y.rem] := (c.new 7 37 (by kernel_rfl) (by kernel_rfl))
              simp [e37]
            · refine (HIT.out wq).mono ?_
              rintro e wp ⟨rfl, hE_⟩
              exact ⟨_, rfl, hE_, rfl⟩
          · refine op_makes fun a wq c => ?_
            have e_0 : a.eval (.tmp 38) = .agg #[.slice y.A y.row.length y.cap, .complex .f64 (fl (oneP y.rem)) (fl (oneQ y.rem))] := (c.new 8 38 (by kernel_rfl) (by kernel_rfl))
            refine ⟨(wanted_plain rfl), .slice (some ⟨wq.heap.size, 0, none⟩) 1 1, wq.alloc (.cells #[.slice y.A y.row.length y.cap, .complex .f64 (fl (oneP y.rem)) (fl (oneQ y.rem))] 62), ?_, Ev.alloc _ _, _, _, _, rfl, item_one y wq (HY4.out.ev c.ev)⟩
            generalize a.eval = ρ at e_0 ⊢
            simp [execOp, e_0, go_sem]
          · refine op_call fun a wq c => ?_
            obtain ⟨B, n1, c1_, e_1, hB⟩ : SetF [oneI y.row y.rem] (a.eval (.tmp 39)) wq := (c.new 9 39 (by kernel_rfl) (by kernel_rfl))
            have e_0 : a.eval (.tmp 36) = .slice d.A d.rows.length d.cap := (c.new 6 36 (by kernel_rfl) (by kernel_rfl))
            refine ⟨(wanted_plain rfl), 59, #[.slice d.A d.rows.length d.cap, .slice B n1 c1_], ?_, ?_⟩
            · rw [run_call 59 _ _ rfl (by kernel_rfl)]
              simp [e_0, e_1]
            · refine (HSM.out B n1 c1_ wq c.ev hB).mono ?_
              rintro e wp ⟨A', c', rfl, hS', hE_⟩
              exact ⟨_, rfl, hE_, A', c', rfl, hS'.less (Nat.le_trans HWS.out c.ev.size)⟩
          · refine op_value fun a wq c => ⟨(wanted_plain rfl), .pointer (some ⟨g, i * 2, none⟩), ?_, rfl⟩
            have e30 : a.eval (.tmp 30) = .slice (some ⟨g, 0, none⟩) m c2 := (c.new 0 30 (by kernel_rfl) (by kernel_rfl))
            have e31 : a.eval (.tmp 31) = .int .i64 (i : Int) := (c.new 1 31 (by kernel_rfl) (by kernel_rfl))
            generalize a.eval = ρ at e30 e31 ⊢
            simp [execOp, e30, e31, go_sem, i2]
          · refine op_value fun a wq c => ⟨(wanted_plain rfl), .pointer (some ⟨g, i * 2 + 1, none⟩), ?_, rfl⟩
            have e41 : a.eval (.tmp 41) = .pointer (some ⟨g, i * 2, none⟩) := (c.new 11 41 (by kernel_rfl) (by kernel_rfl))
            generalize a.eval = ρ at e41 ⊢
            simp [execOp, e41, go_sem]
        intro s w6 hE hold hnew
        have f0 : s 0 = .slice (some ⟨b, off, none⟩) n cap := hold 0 (by kernel_rfl)
        have f1 : s 1 = undef := hold 1 (by kernel_rfl)
        have f2 : s 2 = .slice none 0 0 := hold 2 (by kernel_rfl)
        have f3 : s 3 = .slice (some ⟨g, 0, none⟩) m c2 := hold 3 (by kernel_rfl)
        have f4 : s 4 = undef := hold 4 (by kernel_rfl)
        have f5 : s 5 = .pointer (some ⟨wr.heap.size, 0, none⟩) := hold 5 (by kernel_rfl)
        have f6 : s 6 = .int .i64 (i : Int) := hold 6 (by kernel_rfl)
        have f8 : s 8 = .slice (some ⟨b, off, none⟩) n cap := hold 8 (by kernel_rfl)
        have f9 : s 9 = .int .i64 (n : Int) := hold 9 (by kernel_rfl)
        have f10 : s 10 = .int .i64 (k : Int) := hold 10 (by kernel_rfl)
        have f44 : s 44 = undef := hold 44 (by kernel_rfl)
        have f30 : s 30 = .slice (some ⟨g, 0, none⟩) m c2 := hnew 0 30 (by omega) (by kernel_rfl)
        have f31 : s 31 = .int .i64 (i : Int) := hnew 1 31 (by omega) (by kernel_rfl)
        have f32 : s 32 = .slice (some ⟨g, 0, none⟩) m c2 := hnew 2 32 (by omega) (by kernel_rfl)
        have f33 : s 33 = .int .i64 (i : Int) := hnew 3 33 (by omega) (by kernel_rfl)
        have f34 : s 34 = .pointer (some ⟨g, i * 2, none⟩) := hnew 4 34 (by omega) (by kernel_rfl)
        have f35 : s 35 = .pointer (some ⟨g, i * 2 + 1, none⟩) := hnew 5 35 (by omega) (by kernel_rfl)
        have f36 : s 36 = .slice d.A d.rows.length d.cap := hnew 6 36 (by omega) (by kernel_rfl)
        have f37 : s 37 = .agg #[.string ⟨y.tab.toArray⟩, .slice y.A y.row.length y.cap, .bool y.rem] := hnew 7 37 (by omega) (by kernel_rfl)
        have f38 : s 38 = .agg #[.slice y.A y.row.length y.cap, .complex .f64 (fl (oneP y.rem)) (fl (oneQ y.rem))] := hnew 8 38 (by omega) (by kernel_rfl)
        have f41 : s 41 = .pointer (some ⟨g, i * 2, none⟩) := hnew 11 41 (by omega) (by kernel_rfl)
        have f42 : s 42 = .pointer (some ⟨g, i * 2 + 1, none⟩) := hnew 12 42 (by omega) (by kernel_rfl)
        obtain ⟨A', c', f40, hS'⟩ := (hnew 10 40 (by omega) (by kernel_rfl) : SetNF w.heap.size S' (s 40) w6)
        have hcell_ := (hE.cell (p := ⟨g, i * 2 + 1, none⟩) hg).trans c1
        have hfz := (hE.frozen (p := ⟨g, i * 2 + 1, none⟩) hg).trans (hfz_ _)
        refine ⟨wanted_plain rfl, wp_of_skip (w' := w6.setCell ⟨g, i * 2 + 1, none⟩ (.slice A' S'.length c')) ?_ ?_⟩
        · change (execOp (Act.eval ⟨#[s 0, s 1, s 2, s 3, s 4, s 5, s 6, s 7, s 8, s 9, s 10, s 11, s 12, s 13, s 14, s 15, s 16, s 17, s 18, s 19, s 20, s 21, s 22, s 23, s 24, s 25, s 26, s 27, s 28, s 29, s 30, s 31, s 32, s 33, s 34, s 35, s 36, s 37, s 38, s 39, s 40, s 41, s 42, s 43, s 44], _⟩) ⟨none, .store 41 (.tmp 42) (.tmp 40), _, _, _, _⟩).run _ _ = _
          simp [execOp, f42, f40, go_sem, hcell_, hfz]
        change Exit.inBlock _ _ .normal ⟨#[s 0, s 1, s 2, s 3, s 4, s 5, s 6, s 7, s 8, s 9, s 10, s 11, s 12, s 13, s 14, s 15, s 16, s 17, s 18, s 19, s 20, s 21, s 22, s 23, s 24, s 25, s 26, s 27, s 28, s 29, s 30, s 31, s 32, s 33, s 34, s 35, s 36, s 37, s 38, s 39, s 40, s 41, s 42, s 43, s 44], _⟩ _
        simp only [f0, f1, f2, f3, f4, f5, f6, f8, f9, f10, f44, f30, f31, f32, f33, f34, f35, f36, f37, f38, f41, f42]
        clear hold hnew
        generalize s 7 = u7
        generalize s 11 = u11
        generalize s 12 = u12
        generalize s 13 = u13
        generalize s 14 = u14
        generalize s 15 = u15
        generalize s 16 = u16
        generalize s 17 = u17
        generalize s 18 = u18
        generalize s 19 = u19
        generalize s 20 = u20
        generalize s 21 = u21
        generalize s 22 = u22
        generalize s 23 = u23
        generalize s 24 = u24
        generalize s 25 = u25
        generalize s 26 = u26
        generalize s 27 = u27
        generalize s 28 = u28
        generalize s 29 = u29
        generalize s 43 = u43
        have HD6 := Lib.hid ((HD4.out.up hE).set HDI.out hS')
        clear hS' hcell_ hfz hE hg c1 hfz_
        go_wp2
        go_roundw
        case rel => exact ⟨some ⟨g, 0, none⟩, m, c2, k + 1, _, putT q S' dT, putU q S' dU, rfl, by go_num, by omega, HD6, Lib.hid ⟨by have h9 := dF_set q HNR.out.1 HNR.out.2.1 ⟨d.name, A', c', S'⟩ HDN.out.1 rfl; rw [HNR.out.2.2, ← HI.out] at h9; rw [h9]; cases q <;> rfl, by rw [HT.out]; exact HOK.out.1, by rw [HT.out]; exact HOK.out.2⟩⟩
        case measure => simp [intOf]; omega
    · obtain rfl : k = n := by omega
      have HT : Hid (l.take k = l) := Lib.hid (List.take_of_length_le (by rw [HL.out]; exact Nat.le_refl _))
      go_wp2
      go_ret
      have h1 := HD.out
      rw [HT.out] at h1
      unfold DeltasOut
      exact ⟨_, _, _, Z, dT, dU, rfl, HS.out, h1.1, h1.2.1, h1.2.2⟩
end Go.Proofs.YthpiobkghfdkkaaGreat

namespace Go.Proofs.YthpiobkghfdkkaaGreat
open Go.RowKit
set_option linter.unusedVariables false

theorem run_build_set0 {ρ : Operand → Value} {o : Oper} (ho : o.op = .buildSlice 41 0 #[]) (w : World) : (execOp ρ o).run Tryz.prog w = .ok (.value (.slice (some ⟨w.heap.size, 0, none⟩) 0 0)) (w.alloc (.cells #[] 62)) := by
  unfold execOp
  rw [ho]
  simp [go_sem]
theorem run_build_row0 {ρ : Operand → Value} {o : Oper} (ho : o.op = .buildSlice 23 0 #[]) (w : World) : (execOp ρ o).run Tryz.prog w = .ok (.value (.slice (some ⟨w.heap.size, 0, none⟩) 0 0)) (w.alloc (.cells #[] 32)) := by
  unfold execOp
  rw [ho]
  simp [go_sem]
theorem run_to_set {ρ : Operand → Value} {o : Oper} {x : Operand} {A : Option Addr} {n cap : Nat} (k : Nat) {c : Operand} (ho : o.op = .slice 41 x none (some c) none) (h : ρ x = .slice A n cap) (hc : ρ c = .int .i64 (k : Int)) (hk : k ≤ cap) (w : World) :
    (execOp ρ o).run Tryz.prog w = .ok (.value (.slice A k cap)) w := by
  have h1 : (k : Int) ≤ (cap : Int) := by omega
  have h2 : (0 : Int) ≤ (k : Int) := by omega
  have ht : Tryz.prog.underlying 41 = some (.slice (Tryz.prog.elem 41)) := by kernel_rfl
  have hs : (sizeOf (Tryz.prog.elem 41)).run Tryz.prog w = .ok 2 w := by kernel_rfl
  unfold execOp
  rw [ho]
  simp [h, hc, run_sliceAt_slice w 41 _ _ _ _ ht, run_slice_h w 41 A n cap ht .i64 (k : Int) h2 h1, hs, Result.andThen, sliced, Addr.add]
/-- append of a slice, empty or not, onto a slice of one's own that is not empty, with what all its cells are. -/
theorem run_append_owP {α : Type} {k : Nat} {enc : α → List Value} {et : TypeId} {base : Nat} {w : World} {v : Value} {Z : List α} {P : Program} (Pv : Value → Prop) (E : Enc k enc) (T ty : TypeId)
    (ht : P.underlying T = some (.slice et)) {zero : Value} {bytes : Nat} (hi : (P.info? et).map (fun i => (i.zero, i.size, i.bytes)) = some (some zero, k, bytes)) (hz : zero.cells.size = k)
    (hown : Ow et k enc base w v Z) (hZ : Z ≠ []) (A : Option Addr) (m c : Nat) (l : List α) (hB : Sl k enc w A m c l) (hbytes : (Z.length + l.length) * bytes ≤ 140737488355328) (hsm : Z.length + l.length ≤ 1000000000) (hbase : base ≤ w.heap.size)
    (hzp : ∀ u ∈ zero.cells.toList, Pv u) (hnp : ∀ x ∈ l, ∀ u ∈ enc x, Pv u) (hold : OwP Pv w v) :
    ∃ v' w', (Builtin.append_ #[T, T] ty #[v, .slice A m c]).run P w = .ok v' w' ∧ AppSt et k enc base w v (Z ++ l) v' w' ∧ OwP Pv w' v' := by
  obtain ⟨v', w', hr, h2, h3, h4, _⟩ := run_append_ow (P := P) E T ty ht hi hz hown A m c l hB hbytes hsm hbase
  refine ⟨v', w', hr, ⟨h2, h3, h4⟩, ?_⟩
  obtain ⟨i, hi0, hz', hsz, hby⟩ := info_parts hi
  have hl := hB.len
  cases A with
  | none =>
    obtain ⟨rfl, rfl⟩ := hB.nil rfl
    have hr2 := run_append_owned_none (P := P) (w := w) base T ty et i k ht hi0 _ _ _ hown
    rw [hr] at hr2
    simp only [Result.ok.injEq] at hr2
    rw [hr2.1, hr2.2]
    exact hold
  | some ad =>
    by_cases hm : m = 0
    · subst hm
      rcases hown.2 with ⟨_, hn⟩ | ⟨g, cap, cur, rfl, hbg, hg, hnc, hcm, hcs, htake⟩
      · exact absurd (List.eq_nil_of_length_eq_zero hn) hZ
      · have hr2 := run_append_room (P := P) w T ty et i ht hi0 g Z.length cap cur hg ad 0 c [] (by simp) (by simp) (by simp) (by omega) (by rw [hcs, hsz]; exact Nat.mul_le_mul_right _ hnc)
        rw [hr] at hr2
        simp only [Result.ok.injEq] at hr2
        rw [hr2.1, hr2.2]
        intro g' hg' cs T' q hb u hu
        simp only [Value.ownBlock, Option.some.injEq] at hg'
        subst hg'
        rw [setRow_heap w g cur _ et _ hg] at hb
        injection hb with hb
        injection hb with hb _ _
        subst hb
        simp at hu
        exact hold g rfl _ _ _ hg u (Array.mem_toList_iff.2 hu)
    · have hcells : ∀ j u, (cl enc l)[j]? = some u → w.cell? (ad.add j) = some u := by
        intro q u hu
        obtain ⟨i', j', x, rfl, hx, hxu⟩ := cl_back E l q u hu
        have hq := (List.getElem?_eq_some_iff.1 hx).1
        obtain ⟨b', off, e, _, hc⟩ := hB.rd (by omega)
        obtain rfl := Option.some.inj e
        have := hc i' x hx j' u hxu
        rw [Addr.add_lit]
        rwa [show off + i' * k + j' = off + (i' * k + j') by omega] at this
      exact run_append_pure (P := P) Pv base T ty et i zero ht hi0 hz' (by rw [hz, hsz]) v Z.length (cl enc Z) (by rw [hsz]; exact hown) ad m c (cl enc l) (by rw [cl_length E, hl, hsz]) hcells (cl_one E l) (by unfold maxLen; omega) (by rw [← hl, hby]; exact hbytes) (by omega) hzp (fun u hu => by obtain ⟨x, hx, h⟩ := cl_mem hu; exact hnp x hx u h) hold hr
/-- append of a slice that is not empty, with what all cells are. -/
theorem run_append_owPm {α : Type} {k : Nat} {enc : α → List Value} {et : TypeId} {base : Nat} {w : World} {v : Value} {Z : List α} {P : Program} (Pv : Value → Prop) (E : Enc k enc) (T ty : TypeId)
    (ht : P.underlying T = some (.slice et)) {zero : Value} {bytes : Nat} (hi : (P.info? et).map (fun i => (i.zero, i.size, i.bytes)) = some (some zero, k, bytes)) (hz : zero.cells.size = k)
    (hown : Ow et k enc base w v Z) (A : Option Addr) (m c : Nat) (l : List α) (hB : Sl k enc w A m c l) (hm : m ≠ 0) (hbytes : (Z.length + l.length) * bytes ≤ 140737488355328) (hsm : Z.length + l.length ≤ 1000000000) (hbase : base ≤ w.heap.size)
    (hzp : ∀ u ∈ zero.cells.toList, Pv u) (hnp : ∀ x ∈ l, ∀ u ∈ enc x, Pv u) (hold : OwP Pv w v) :
    ∃ v' w', (Builtin.append_ #[T, T] ty #[v, .slice A m c]).run P w = .ok v' w' ∧ AppSt et k enc base w v (Z ++ l) v' w' ∧ OwP Pv w' v' := by
  obtain ⟨v', w', hr, h2, h3, h4, _⟩ := run_append_ow (P := P) E T ty ht hi hz hown A m c l hB hbytes hsm hbase
  refine ⟨v', w', hr, ⟨h2, h3, h4⟩, ?_⟩
  obtain ⟨i, hi0, hz', hsz, hby⟩ := info_parts hi
  have hl := hB.len
  cases A with
  | none =>
    exact absurd (hB.nil rfl).1 hm
  | some ad =>
    have hcells : ∀ j u, (cl enc l)[j]? = some u → w.cell? (ad.add j) = some u := by
      intro q u hu
      obtain ⟨i', j', x, rfl, hx, hxu⟩ := cl_back E l q u hu
      have hq := (List.getElem?_eq_some_iff.1 hx).1
      obtain ⟨b', off, e, _, hc⟩ := hB.rd (by omega)
      obtain rfl := Option.some.inj e
      have := hc i' x hx j' u hxu
      rw [Addr.add_lit]
      rwa [show off + i' * k + j' = off + (i' * k + j') by omega] at this
    exact run_append_pure (P := P) Pv base T ty et i zero ht hi0 hz' (by rw [hz, hsz]) v Z.length (cl enc Z) (by rw [hsz]; exact hown) ad m c (cl enc l) (by rw [cl_length E, hl, hsz]) hcells (cl_one E l) (by unfold maxLen; omega) (by rw [← hl, hby]; exact hbytes) (by omega) hzp (fun u hu => by obtain ⟨x, hx, h⟩ := cl_mem hu; exact hnp x hx u h) hold hr
/-- append onto an empty literal, with what all cells are. -/
theorem run_append_owP0 {α : Type} {k : Nat} {enc : α → List Value} {et : TypeId} {b : Nat} {v : Value} {w : World} {P : Program} (Pv : Value → Prop) (E : Enc k enc) (T ty : TypeId) (ht : P.underlying T = some (.slice et)) {zero : Value} {bytes : Nat} (hi : (P.info? et).map (fun i => (i.zero, i.size, i.bytes)) = some (some zero, k, bytes)) (hz : zero.cells.size = k)
    (hv : Empty0 et b v w) (A : Option Addr) (m c : Nat) (l : List α) (hB : Sl k enc w A m c l) (hbytes : l.length * bytes ≤ 140737488355328) (hsm : l.length ≤ 1000000000) (hbase : b ≤ w.heap.size) (hzp : ∀ u ∈ zero.cells.toList, Pv u) (hnp : ∀ x ∈ l, ∀ u ∈ enc x, Pv u) :
    ∃ v' w', (Builtin.append_ #[T, T] ty #[v, .slice A m c]).run P w = .ok v' w' ∧ Ow et k enc b w' v' l ∧ OwP Pv w' v' ∧ Ev w w' := by
  obtain ⟨v', w', hr, h1, hE⟩ := run_append_ow0 (P := P) E T ty ht hi hz hv A m c l hB hbytes hsm hbase
  refine ⟨v', w', hr, h1, ?_, hE⟩
  obtain ⟨g, rfl, hg, hbg⟩ := hv
  have hold : OwP Pv w (.slice (some ⟨g, 0, none⟩) 0 0) := fun g' hg' cs T' q hb u hu => by
    simp only [Value.ownBlock, Option.some.injEq] at hg'
    subst hg'
    rw [hg] at hb
    injection hb with hb
    injection hb with hb _ _
    subst hb
    simp at hu
  obtain ⟨i, hi0, hz', hsz, hby⟩ := info_parts hi
  have hl := hB.len
  have hown : Ow et k enc b w (.slice (some ⟨g, 0, none⟩) 0 0) ([] : List α) := Empty0.ow ⟨g, rfl, hg, hbg⟩
  cases A with
  | none =>
    obtain ⟨rfl, rfl⟩ := hB.nil rfl
    have hr2 := run_append_owned_none (P := P) (w := w) b T ty et i k ht hi0 _ _ _ hown
    rw [hr] at hr2
    simp only [Result.ok.injEq] at hr2
    rw [hr2.1, hr2.2]
    exact hold
  | some ad =>
    by_cases hm : m = 0
    · subst hm
      have hr2 := run_append_room (P := P) w T ty et i ht hi0 g 0 0 #[] hg ad 0 c [] (by simp) (by simp) (by simp) (by omega) (by simp)
      rw [hr] at hr2
      simp only [Result.ok.injEq] at hr2
      rw [hr2.1, hr2.2]
      intro g' hg' cs T' q hb u hu
      simp only [Value.ownBlock, Option.some.injEq] at hg'
      subst hg'
      rw [setRow_heap w g #[] _ et (0, 0) hg] at hb
      injection hb with hb
      injection hb with hb _ _
      subst hb
      simp at hu
    · have hcells : ∀ j u, (cl enc l)[j]? = some u → w.cell? (ad.add j) = some u := by
        intro q u hu
        obtain ⟨i', j', x, rfl, hx, hxu⟩ := cl_back E l q u hu
        have hq := (List.getElem?_eq_some_iff.1 hx).1
        obtain ⟨b', off, e, _, hc⟩ := hB.rd (by omega)
        obtain rfl := Option.some.inj e
        have := hc i' x hx j' u hxu
        rw [Addr.add_lit]
        rwa [show off + i' * k + j' = off + (i' * k + j') by omega] at this
      exact run_append_pure (P := P) Pv b T ty et i zero ht hi0 hz' (by rw [hz, hsz]) _ 0 [] (by rw [hsz]; exact hown) ad m c (cl enc l) (by rw [cl_length E, hl, hsz]) hcells (cl_one E l) (by unfold maxLen; omega) (by rw [Nat.zero_add, ← hl, hby]; exact hbytes) (by omega) hzp (fun u hu => by obtain ⟨x, hx, h⟩ := cl_mem hu; exact hnp x hx u h) hold hr
/-- The items ahead of the new one. -/
def AheadF (b : Nat) (l : List J) (v : Value) (w : World) : Prop := Ow 62 2 jcells b w v l ∧ OwP PvI w v
theorem AheadF.mono (b : Nat) (l : List J) : Mono (AheadF b l) := fun v w w' hE h => ⟨h.1.ev hE, h.2.ev h.1 hE⟩
/-- A row in memory of its own. -/
def RowNF (b : Nat) (r : List V) (v : Value) (w : World) : Prop := ∃ A c, v = .slice A r.length c ∧ Vs w A r.length c r ∧ ∀ ad, A = some ad → b ≤ ad.block ∧ ad.block < w.heap.size
theorem RowNF.mono (b : Nat) (r : List V) : Mono (RowNF b r) := fun v w w' hE ⟨A, c, e, h, h2⟩ => ⟨A, c, e, h.ev hE, fun ad ea => ⟨(h2 ad ea).1, Nat.lt_of_lt_of_le (h2 ad ea).2 hE.size⟩⟩
def ItNF (b : Nat) (x : I) (v : Value) (w : World) : Prop := ∃ A c, v = .agg #[.slice A x.1.length c, .complex .f64 (fl x.2.1) (fl x.2.2)] ∧ Vs w A x.1.length c x.1 ∧ ∀ ad, A = some ad → b ≤ ad.block ∧ ad.block < w.heap.size
theorem ItNF.mono (b : Nat) (x : I) : Mono (ItNF b x) := fun v w w' hE ⟨A, c, e, h, h2⟩ => ⟨A, c, e, h.ev hE, fun ad ea => ⟨(h2 ad ea).1, Nat.lt_of_lt_of_le (h2 ad ea).2 hE.size⟩⟩
def OneJF (b : Nat) (x : I) (v : Value) (w : World) : Prop := ∃ h A c, v = .slice (some ⟨h, 0, none⟩) 1 1 ∧ Sl 2 jcells w (some ⟨h, 0, none⟩) 1 1 [((A, x.1.length, c), x)] ∧ Vs w A x.1.length c x.1 ∧ ∀ ad, A = some ad → b ≤ ad.block ∧ ad.block < w.heap.size
theorem OneJF.mono (b : Nat) (x : I) : Mono (OneJF b x) := fun v w w' hE ⟨h, A, c, e, h1, h2, h3⟩ => ⟨h, A, c, e, h1.ev hE, h2.ev hE, fun ad ea => ⟨(h3 ad ea).1, Nat.lt_of_lt_of_le (h3 ad ea).2 hE.size⟩⟩
/-- The items so far, with the new one. -/
def NewJF (b : Nat) (l : List J) (x : I) (v : Value) (w : World) : Prop := ∃ A c, Ow 62 2 jcells b w v (l ++ [((A, x.1.length, c), x)]) ∧ OwP PvI w v ∧ Vs w A x.1.length c x.1 ∧ ∀ ad, A = some ad → b ≤ ad.block ∧ ad.block < w.heap.size
theorem NewJF.mono (b : Nat) (l : List J) (x : I) : Mono (NewJF b l x) := fun v w w' hE ⟨A, c, h1, h0, h2, h3⟩ => ⟨A, c, h1.ev hE, h0.ev h1 hE, h2.ev hE, fun ad ea => ⟨(h3 ad ea).1, Nat.lt_of_lt_of_le (h3 ad ea).2 hE.size⟩⟩
theorem Tryz.infoValueM : (Tryz.prog.info? 32).map (fun i => (i.zero, i.size, i.bytes)) = some (some (.agg #[.int .i64 0, .int .i64 0, .string ⟨#[]⟩]), 3, 32) := by kernel_rfl
theorem encVv : Enc 3 vcells := ⟨by omega, fun _ => rfl, fun x u hu => by
  simp [vcells] at hu
  rcases hu with rfl | rfl | rfl <;> rfl⟩
theorem MkSt.cell {w wr : World} {g n c k : Nat} {Z : List J} {y : J} (h : MkSt w (.slice (some ⟨g, 0, none⟩) n c) Z wr) (hy : Z[k]? = some y) : g < wr.heap.size ∧ wr.cell? ⟨g, k * 2, none⟩ = some (jrow y) ∧ wr.cell? ⟨g, k * 2 + 1, none⟩ = some (jtal y) ∧ (∀ j, wr.frozen? ⟨g, j, none⟩ = false) ∧ Vs wr y.1.1 y.1.2.1 y.1.2.2 y.2.1 := by
  obtain ⟨A, c', e, hS, hA⟩ := h.own.form encJ
  injection e with e1 e2 e3
  subst e1; subst e2; subst e3
  have hi := (List.getElem?_eq_some_iff.1 hy).1
  obtain ⟨b, off, e, hlt, hc⟩ := hS.rd (by omega)
  injection e with e
  injection e with e1 e2 _
  subst e1; subst e2
  have h1 := hc k y hy 0 _ rfl
  have h2 := hc k y hy 1 _ rfl
  rw [Nat.zero_add, Nat.add_zero] at h1
  rw [Nat.zero_add] at h2
  exact ⟨hlt, h1, h2, (hA _ rfl).2.2.2.2, (h.rows y (List.mem_of_getElem? hy)).1⟩
theorem MkSt.some_ {w wr : World} {A : Option Addr} {n c : Nat} {Z : List J} (h : MkSt w (.slice A n c) Z wr) (hn : 0 < n) : ∃ g, A = some ⟨g, 0, none⟩ := by
  obtain ⟨A1, c1, e, hS, hA⟩ := h.own.form encJ
  injection e with e1 e2 e3
  subst e1; subst e2; subst e3
  obtain ⟨g, off, e8, _⟩ := hS.rd hn
  have h7 := (hA _ e8).2.2.2.1
  injection h7 with _ h7 _
  subst h7
  exact ⟨g, e8⟩
/-- The new row is in. -/
theorem MkSt.grown_ {w w7 w9 : World} {v v13 v9 : Value} {Z1 : List J} {k : Nat} {A5 : Option Addr} {c5 : Nat} {x : I} (h : MkSt w v Z1 w7) (h1 : Ow 62 2 jcells w.heap.size w7 v13 (Z1.take k ++ [((A5, x.1.length, c5), x)])) (h2 : OwP PvI w7 v13) (h3 : Vs w7 A5 x.1.length c5 x.1) (h4 : ∀ ad, A5 = some ad → w.heap.size ≤ ad.block ∧ ad.block < w7.heap.size) (hx : x.1 ≠ [])
    (hA : AppSt 62 2 jcells w.heap.size w7 v13 ((Z1.take k ++ [((A5, x.1.length, c5), x)]) ++ Z1.drop k) v9 w9) (hP : OwP PvI w9 v9) : MkSt w v9 (Z1.take k ++ ((A5, x.1.length, c5), x) :: Z1.drop k) w9 := by
  have e : (Z1.take k ++ [((A5, x.1.length, c5), x)]) ++ Z1.drop k = Z1.take k ++ ((A5, x.1.length, c5), x) :: Z1.drop k := by simp
  rw [e] at hA
  have hm : ∀ z ∈ Z1.take k ++ ((A5, x.1.length, c5), x) :: Z1.drop k, z ∈ Z1 ∨ z = ((A5, x.1.length, c5), x) := fun z hz => by
    rcases List.mem_append.1 hz with hz | hz
    · exact .inl (List.mem_of_mem_take hz)
    · rcases List.mem_cons.1 hz with hz | hz
      · exact .inr hz
      · exact .inl (List.mem_of_mem_drop hz)
  refine ⟨hA.1, hP, fun z hz => ?_, fun z hz => ?_⟩
  · rcases hm z hz with hz | rfl
    · exact ⟨vs_past h1 h2 hA.2.1 (h.rows z hz).1, fun ad ea => ⟨((h.rows z hz).2 ad ea).1, Nat.lt_of_lt_of_le ((h.rows z hz).2 ad ea).2 hA.2.1.size⟩⟩
    · exact ⟨vs_past h1 h2 hA.2.1 h3, fun ad ea => ⟨(h4 ad ea).1, Nat.lt_of_lt_of_le (h4 ad ea).2 hA.2.1.size⟩⟩
  · rcases hm z hz with hz | rfl
    · exact h.right z hz
    · exact hx
theorem items_new (Z1 : List J) (k : Nat) (A5 : Option Addr) (n5 c5 : Nat) (x : I) : itemsOf (Z1.take k ++ ((A5, n5, c5), x) :: Z1.drop k) = (itemsOf Z1).take k ++ x :: (itemsOf Z1).drop k := by
  simp [itemsOf, List.map_take, List.map_drop]
theorem items_set (Z1 : List J) (k : Nat) (z : J) : itemsOf (Z1.set k z) = (itemsOf Z1).set k z.2 := by
  simp [itemsOf, List.map_set]
theorem exec_append {P : Program} {ρ : Operand → Value} {o : Oper} {s x : Operand} {T : TypeId} (ho : o.op = .call { callee := .builtin .append, args := #[s, x], argTypes := #[T, T] }) {v u : Value} (hs : ρ s = v) (hx : ρ x = u) {w w' : World} {v' : Value} (hr : (Builtin.append_ #[T, T] o.type #[v, u]).run P w = .ok v' w') : (execOp ρ o).run P w = .ok (.value v') w' := by
  unfold execOp
  simp only [ho, resolve, invoke, builtin, Sem.run_bind, Sem.run_pure, Result.andThen_ok, List.map_toArray, List.map_cons, List.map_nil, hs, hx, hr]

theorem wpList_run {P : Program} {ops : Array Oper} {rest : List Oper} {o : Oper} {a : Act} {Q : Exit → Act → World → Prop} {w w' : World} {v : Value} (hgd : o.guard = none) (hr : (execOp a.eval o).run P w = .ok (.value v) w') (h : wpList P ops Q rest (a.put o.dst v) w') : wpList P ops Q (o :: rest) a w := by
  refine wpList_plain hgd fun K hK => ?_
  unfold Oper.wp
  rw [hr]
  exact hK _ _ h
theorem run_app_item {wr wq : World} {A : Option Addr} {n c : Nat} {Z : List J} (h : Ow 62 2 jcells wr.heap.size wq (.slice A n c) Z) (hp : OwP PvI wq (.slice A n c)) (y : J) (hE : Ev wr wq) (hn : Z.length < 1000000) :
    ∃ A' c' w', (Builtin.append_ #[41, 41] 41 #[.slice A n c, .slice (some ⟨wq.heap.size, 0, none⟩) 1 1]).run Tryz.prog (wq.alloc (.cells #[.slice y.1.1 y.1.2.1 y.1.2.2, .complex .f64 (fl y.2.2.1) (fl y.2.2.2)] 62)) = .ok (.slice A' (n + 1) c') w' ∧ Ow 62 2 jcells wr.heap.size w' (.slice A' (n + 1) c') (Z ++ [y]) ∧ OwP PvI w' (.slice A' (n + 1) c') ∧ Ev wr w' := by
  have hl : Z.length = n := by
    obtain ⟨A1, c1, e, hS, _⟩ := h.form encJ
    injection e with e1 e2 e3
    exact e2.symm
  have hE1 := Ev.alloc wq (.cells #[.slice y.1.1 y.1.2.1 y.1.2.2, .complex .f64 (fl y.2.2.1) (fl y.2.2.2)] 62)
  have h1 := h.ev hE1
  obtain ⟨v', w', hr, hA, hP⟩ := run_append_owPm (P := Tryz.prog) PvI encJ 41 41 Tryz.underlying41 Tryz.infoItemJ rfl h1 (some ⟨wq.heap.size, 0, none⟩) 1 1 [y] (Sl.one (et := 62) encJ wq y #[.slice y.1.1 y.1.2.1 y.1.2.2, .complex .f64 (fl y.2.2.1) (fl y.2.2.2)] rfl) (by omega) (by simp; omega) (by simp; omega) (hE.trans hE1).size pvi_zero (fun z _ => pvi_j z) (hp.ev h hE1)
  have h2 := hA.1
  obtain ⟨A', c', rfl, _⟩ := h2.form encJ
  rw [List.length_append, hl] at hr hP h2
  exact ⟨A', c', w', hr, h2, hP, ((But.of_ev (hE.trans hE1)).then hA.2.1).ev fun g_ hg_ => (h1.lt (mem_foot.1 hg_)).1⟩
theorem MkSt.slot {w wr : World} {A : Option Addr} {n c : Nat} {Z : List J} (h : MkSt w (.slice A n c) Z wr) (hc : c ≠ 0) : ∃ g, A = some ⟨g, 0, none⟩ := by
  obtain ⟨A1, c1, e, hS, hA⟩ := h.own.form encJ
  injection e with e1 e2 e3
  subst e1; subst e2; subst e3
  cases A with
  | none => exact absurd (hS.nil rfl).2 hc
  | some ad =>
    exact ⟨ad.block, congrArg some (hA _ rfl).2.2.2.1⟩
end Go.Proofs.YthpiobkghfdkkaaGreat

namespace Go.Proofs.YthpiobkghfdkkaaGreat
open Go.RowKit
set_option linter.unusedVariables false

def colsX (q : Bool) : List C := if q then tcols else ucols
/-- A change of t or u that fits. -/
def ChOk (y : CM) : Prop := ∃ q, y.tab = nmT q ∧ fitsL (colsX q) y.row = true ∧ rightR y.row = true
/-- A table's rows. -/
structure SOk (q : Bool) (m : Nat) (S : List I) : Prop where
  z : ZOk m S
  nn : NN S
  fits : ∀ x ∈ S, fitsL (colsX q) x.1 = true
/-- The tables u and t. -/
structure UtAt (m : Nat) (tU tT : TM) : Prop where
  nU : tU.name = [117] ∧ tU.cols = ucols
  nT : tT.name = [116] ∧ tT.cols = tcols
  sU : SOk false m tU.rows
  sT : SOk true m tT.rows
theorem UtAt.df {m : Nat} {tU tT : TM} (h : UtAt m tU tT) : [tU, tT].map TM.df = utF := by
  simp [TM.df, utF, h.nU.1, h.nU.2, h.nT.1, h.nT.2]
theorem SOk.fit {q : Bool} {m : Nat} {t : TM} (h : SOk q m t.rows) (hc : t.cols = colsX q) : TFit t := ⟨h.z.parts, by rw [hc]; exact h.fits, h.nn.plain h.z⟩
theorem UtAt.right {m : Nat} {tU tT : TM} (h : UtAt m tU tT) : TsRight [tU, tT] := by
  refine ⟨fun t ht => ?_, fun t ht => ?_, by rw [h.df]; exact ok_ut, by simp⟩
  · simp only [List.mem_cons, List.not_mem_nil, or_false] at ht
    rcases ht with rfl | rfl
    · exact h.sU.fit h.nU.2
    · exact h.sT.fit h.nT.2
  · simp only [List.mem_cons, List.not_mem_nil, or_false] at ht
    rcases ht with rfl | rfl
    · rw [h.nU.2]; decide
    · rw [h.nT.2]; decide
def rowsQ (q : Bool) (tU tT : TM) : List I := if q then tT.rows else tU.rows
/-- A change that is taken. -/
theorem SOk.step {q : Bool} {m : Nat} {S : List I} (h : SOk q m S) (hm : m < 1000) {y : CM} (hf : fitsL (colsX q) y.row = true) (hr : rightR y.row = true) : ∃ S', makeI (S ++ [oneI y.row y.rem]) = (0, S') ∧ (whyC S y.row y.rem = 0 → SOk q (m + 1) S' ∧ ∀ f, netS f S' = netS f S + f y.row * oneE y.rem) := by
  obtain ⟨S', h1, h2, h3, h4⟩ := make_step h.z (by omega) y.row hr y.rem
  refine ⟨S', h1, fun hw => ⟨⟨h2, fun r => ?_, fun x hx => ?_⟩, h3⟩⟩
  · have h5 := h.nn r
    rw [cnt, h3]
    show 0 ≤ cnt r S + oneRow r y.row * oneE y.rem
    by_cases e : y.row = r
    · subst e
      unfold oneRow
      rw [if_pos rfl]
      unfold whyC at hw
      cases hrem : y.rem
      · rw [hrem] at hw
        show 0 ≤ cnt y.row S + 1 * 1
        omega
      · rw [hrem] at hw
        simp only [if_true] at hw
        by_cases h0 : cnt y.row S = 0
        · rw [if_pos h0] at hw; cases hw
        · show 0 ≤ cnt y.row S + 1 * -1
          omega
    · unfold oneRow
      rw [if_neg e]
      omega
  · rcases h4 x hx with e | ⟨z, hz, e⟩
    · rw [e]; exact hf
    · rw [← e]; exact h.fits z hz
/-- What a change of t or u comes to. -/
def ChgU (b g cap m : Nat) (q : Bool) (tU tT : TM) (y : CM) (w : World) (e : Ending) (w' : World) : Prop :=
  e = .returned (.int .i64 (whyC (rowsQ q tU tT) y.row y.rem)) ∧ ((whyC (rowsQ q tU tT) y.row y.rem ≠ 0 ∧ Ev w w') ∨ (whyC (rowsQ q tU tT) y.row y.rem = 0 ∧ ∃ tU' tT', TabSt b g cap [tU', tT'] w' ∧ But [g] w w' ∧ UtAt (m + 1) tU' tT' ∧ ∀ q' f, netS f (rowsQ q' tU' tT') = netS f (rowsQ q' tU tT) + (if q' = q then f y.row * oneE y.rem else 0)))
theorem SOk.more {q : Bool} {m n : Nat} {S : List I} (h : SOk q m S) (hn : m ≤ n) : SOk q n S := ⟨h.z.more hn, h.nn, h.fits⟩
theorem bt_chg (b g cap m : Nat) (q : Bool) (tU tT : TM) (y : CM) (hm : m < 900) (hU : UtAt m tU tT) (hq : y.tab = nmT q) (hf : fitsL (colsX q) y.row = true) (hr : rightR y.row = true) (w : World) (h : TabSt b g cap [tU, tT] w) (hy : CmAt w y) :
    Calls Tryz.prog 34 #[.slice (some ⟨g, 0, none⟩) 2 cap, .agg #[.string ⟨y.tab.toArray⟩, .slice y.A y.row.length y.cap, .bool y.rem]] w (ChgU b g cap m q tU tT y w) := by
  have hnu : (⟨tU.name.toArray⟩ : ByteArray) = ⟨#[117]⟩ := by rw [hU.nU.1]
  have hnt : (⟨tT.name.toArray⟩ : ByteArray) = ⟨#[116]⟩ := by rw [hU.nT.1]
  have hta : ∀ S : List I, ZOk m S → ∀ x ∈ S ++ [oneI y.row y.rem], TallyAs x.2.1 x.2.2 := fun S hS x hx => by
    rcases List.mem_append.1 hx with hx | hx
    · exact hS.tallies x hx
    · rw [List.mem_singleton.1 hx]
      exact TallyAs.part (oneI_part _ _).1 (oneI_part _ _).2
  cases q
  · obtain ⟨S', h1, h2⟩ := hU.sU.step (y := y) (by omega) hf hr
    have hl := zok_len hU.sU.z
    refine (bt_change0 (k := m) b g cap tU tT y true false (by rw [hnu, hq]; decide) (by rw [hnt, hq]; decide) rfl w h hy (by rw [hU.nU.2]; exact hf) hr hU.sU.z hU.sU.nn (by omega) (by omega) (hta _ hU.sU.z) S' h1).mono ?_
    rintro e w' ⟨rfl, h3⟩
    refine ⟨rfl, ?_⟩
    rcases h3 with ⟨h4, h5⟩ | ⟨h4, A, c, h5, h6⟩
    · exact .inl ⟨h4, h5⟩
    · obtain ⟨h7, h8⟩ := h2 h4
      refine .inr ⟨h4, newT tU A c S', tT, h5, h6, ⟨hU.nU, hU.nT, h7, hU.sT.more (by omega)⟩, fun q' f => ?_⟩
      cases q'
      · exact h8 f
      · show netS f tT.rows = netS f tT.rows + 0
        omega
  · obtain ⟨S', h1, h2⟩ := hU.sT.step (y := y) (by omega) hf hr
    have hl := zok_len hU.sT.z
    refine (bt_change1 (k := m) b g cap tU tT y false true (by rw [hnu, hq]; decide) (by rw [hnt, hq]; decide) rfl w h hy (by rw [hU.nT.2]; exact hf) hr hU.sT.z hU.sT.nn (by omega) (by omega) (hta _ hU.sT.z) S' h1).mono ?_
    rintro e w' ⟨rfl, h3⟩
    refine ⟨rfl, ?_⟩
    rcases h3 with ⟨h4, h5⟩ | ⟨h4, A, c, h5, h6⟩
    · exact .inl ⟨h4, h5⟩
    · obtain ⟨h7, h8⟩ := h2 h4
      refine .inr ⟨h4, tU, newT tT A c S', h5, h6, ⟨hU.nU, hU.nT, hU.sU.more (by omega), h7⟩, fun q' f => ?_⟩
      cases q'
      · show netS f tU.rows = netS f tU.rows + 0
        omega
      · exact h8 f
/-- The tables behind changes. -/
structure Behind (m : Nat) (l : List CM) (tU tT tU' tT' : TM) : Prop where
  ut : UtAt (m + l.length) tU' tT'
  sum : ∀ q f, netS f (rowsQ q tU' tT') = netS f (rowsQ q tU tT) + chS q l f
theorem two_of_map {α β : Type} {f : α → β} {Z : List α} {a b : α} (h : Z.map f = [a, b].map f) : ∃ x y, Z = [x, y] ∧ f x = f a ∧ f y = f b := by
  match Z, h with
  | [x, y], h =>
    simp at h
    exact ⟨x, y, rfl, h.1, h.2⟩
  | [], h => simp at h
  | [_], h => simp at h
  | _ :: _ :: _ :: _, h => simp at h
theorem Ow.lowB {α : Type} {et : TypeId} {k base base' : Nat} {enc : α → List Value} {w : World} {v : Value} {Z : List α} (h : Ow et k enc base w v Z) (hb : base' ≤ base) : Ow et k enc base' w v Z := by
  refine ⟨h.1, ?_⟩
  rcases h.2 with h1 | ⟨g, cap, cur, h1, h2, h3⟩
  · exact .inl h1
  · exact .inr ⟨g, cap, cur, h1, Nat.le_trans hb h2, h3⟩
/-- What Apply gives for changes of t and u that fit. -/
def ApplyOut (m : Nat) (l : List CM) (tU tT : TM) (w : World) (e : Ending) (w' : World) : Prop :=
  Ev w w' ∧ ((∃ (g cap : Nat) (tU' tT' : TM) (A : Option Addr) (n c : Nat) (Z : List DL) (dT dU : Option (List I)), e = .returned (.tuple #[.slice (some ⟨g, 0, none⟩) 2 cap, .slice A n c, .int .i64 0, .int .i64 0]) ∧ 0 < l.length ∧ l.length ≤ 8 ∧ TabSt w.heap.size g cap [tU', tT'] w' ∧ Behind m l tU tT tU' tT' ∧ Sl 2 dlc w' A n c Z ∧ (∀ d ∈ Z, SetNew w.heap.size d.rows w' d.A d.rows.length d.cap) ∧ Z.map nr = dF dT dU ∧ DOk true l dT ∧ DOk false l dU) ∨
    (∃ (k : Nat) (why : Int), e = .returned (.tuple #[.slice none 0 0, .slice none 0 0, .int .i64 why, .int .i64 (k : Int)]) ∧ why ≠ 0 ∧ ((takenN l.length = why ∧ k = 0) ∨ (takenN l.length = 0 ∧ ∃ q y tU' tT', l[k]? = some y ∧ y.tab = nmT q ∧ Behind m (l.take k) tU tT tU' tT' ∧ why = whyC (rowsQ q tU' tT') y.row y.rem))))

set_option maxRecDepth 100000 in
set_option maxHeartbeats 8000000 in
theorem bt_Apply {A B : Option Addr} {n cap cap0 m : Nat} {l : List CM} {tU tT : TM} (w : World) (h : TsAt w A 2 cap0 [tU, tT]) (hU : UtAt m tU tT) (hm : m ≤ 500) (hc : ChsAt w B n cap l) (hok : ∀ y ∈ l, ChOk y) (hn : n ≤ 300) :
    Calls Tryz.prog 20 #[.slice A 2 cap0, .slice B n cap] w (ApplyOut m l tU tT w) := by
  have hcl := hc.sl.le
  have hcm := hc.sl.max
  have HL := Lib.hid hc.sl.len
  have HTK := Lib.hid (bt_taken w h hU.right n)
  have hlU := zok_len hU.sU.z
  have hlT := zok_len hU.sT.z
  have HCLN := Lib.hid (fun w1 (hE : Ev w w1) => bt_clones (q := m) w1 (h.ev hE) (by decide) (by decide) (fun t ht => by
    simp only [List.mem_cons, List.not_mem_nil, or_false] at ht
    rcases ht with rfl | rfl
    · rw [hU.nU.2]; decide
    · rw [hU.nT.2]; decide) (fun t ht => by
    simp only [List.mem_cons, List.not_mem_nil, or_false] at ht
    rcases ht with rfl | rfl
    · exact ⟨hU.sU.z, by omega⟩
    · exact ⟨hU.sT.z, by omega⟩) (by omega))
  have HDLT := Lib.hid (fun w1 (hE : Ev w w1) => bt_deltas w1 (hc.ev hE) (by omega) (fun x hx => by
    obtain ⟨q, h1, _, h3⟩ := hok x hx
    exact ⟨⟨q, h1⟩, h3⟩))
  have HC := Lib.hid hc
  have HOK := Lib.hid hok
  have HU := Lib.hid hU
  unfold ClonesOut at HCLN
  unfold DeltasOut at HDLT
  clear h hU hc hok hlU hlT
  by_cases htk : takenN n = 0
  · rw [htk] at HTK
    have HTN : Hid (0 < n ∧ n ≤ 8) := Lib.hid (by
      unfold takenN at htk
      by_cases h8 : 8 < n
      · rw [if_pos h8] at htk; cases htk
      · rw [if_neg h8] at htk
        by_cases h0 : n = 0
        · rw [if_pos h0] at htk; cases htk
        · omega)
    have HTKN := Lib.hid htk
    clear htk
    go_enter Tryz.func20, Tryz.ntmps20
    go_upto_region 5 with (first
      | ((with_reducible refine (HTK.out).mono ?_); rintro e w1 ⟨rfl, hE1⟩; have E1 := Lib.hid hE1; clear hE1)
      | ((with_reducible refine (HCLN.out _ E1.out).mono ?_); rintro e w2 ⟨g, cap2, Z0, rfl, hT2, hS2, hE2⟩; have E2 := Lib.hid (E1.out.trans hE2); have HT2 := Lib.hid hT2; have HS2 := Lib.hid hS2; clear hT2 hS2 hE2))
    obtain ⟨tU0, tT0, hZ0, HB0⟩ : ∃ tU0 tT0, Z0 = [tU0, tT0] ∧ Hid (Behind m [] tU tT tU0 tT0) := by
      obtain ⟨a, b, rfl, h9a, h9b⟩ := two_of_map HS2.out
      simp only [Prod.mk.injEq] at h9a h9b
      have h9 := And.intro h9a h9b
      refine ⟨a, b, rfl, Lib.hid ⟨⟨⟨h9.1.1.trans HU.out.nU.1, h9.1.2.1.trans HU.out.nU.2⟩, ⟨h9.2.1.trans HU.out.nT.1, h9.2.2.1.trans HU.out.nT.2⟩, by rw [h9.1.2.2]; exact HU.out.sU, by rw [h9.2.2.2]; exact HU.out.sT⟩, fun q f => ?_⟩⟩
      have e0 : chS q [] f = 0 := by unfold chS; simp
      rw [e0, Int.add_zero]
      cases q
      · show netS f a.rows = netS f tU.rows
        rw [h9.1.2.2]
      · show netS f b.rows = netS f tT.rows
        rw [h9.2.2.2]
    subst hZ0
    have HT2 : Hid (TabSt w1.heap.size g cap2 [tU0, tT0] w2) := HT2
    have HG : Hid (w.heap.size ≤ g ∧ w1.heap.size ≤ g) := Lib.hid ⟨by have := HT2.out.lt.1; have := E1.out.size; omega, HT2.out.lt.1⟩
    clear HS2
    rw [show ([tU0, tT0] : List TM).length = 2 from rfl]
    go_wp2
    go_loopw [24] (fun iv wr => ∃ (k : Nat) (tU1 tT1 : TM), iv = .int .i64 (k : Int) ∧ k ≤ n ∧ Hid (TabSt w1.heap.size g cap2 [tU1, tT1] wr) ∧ Hid (Behind m (l.take k) tU tT tU1 tT1) ∧ Hid (Ev w wr)) (fun iv _ => n - (intOf iv).toNat)
    case atStart => exact ⟨0, tU0, tT0, rfl, Nat.zero_le _, HT2, HB0, E2⟩
    case round =>
      obtain ⟨k, tU1, tT1, rfl, hk, HT, HB, HE⟩ := hrel
      by_cases hlt : k < n
      · obtain ⟨y, hy⟩ := HC.out.sl.at hlt
        obtain ⟨b, off, rfl, hb, c0, c1, c2⟩ := (HC.out.ev HE.out).cell hy
        obtain ⟨wx, hwx, hEx, hX⟩ : ∃ wx, wr.alloc (.cells #[.string ⟨y.tab.toArray⟩, .slice y.A y.row.length y.cap, .bool y.rem] 25) = wx ∧ Ev wr wx ∧ Bx 25 wr.heap.size #[.string ⟨y.tab.toArray⟩, .slice y.A y.row.length y.cap, .bool y.rem] wx := ⟨_, rfl, Ev.alloc _ _, Bx.new _ _ _⟩
        have hym := List.mem_of_getElem? hy
        obtain ⟨q, hq, hf, hrr⟩ := HOK.out y hym
        have hkl : (l.take k).length = k := by rw [List.length_take, HL.out]; omega
        have hut := HB.out.ut
        rw [hkl] at hut
        have HCH := Lib.hid (bt_chg w1.heap.size g cap2 (m + k) q tU1 tT1 y (by omega) hut hq hf hrr wx (HT.out.ev hEx) ((HC.out.each y hym).ev (HE.out.trans hEx)))
        have HTK1 : Hid (l.take (k + 1) = l.take k ++ [y]) := Lib.hid (by
          obtain ⟨hk2, e1⟩ := List.getElem?_eq_some_iff.1 hy
          rw [List.take_succ_eq_append_getElem hk2, e1])
        have HY := Lib.hid hy
        have HQ := Lib.hid hq
        have HKL := Lib.hid hkl
        have HEX := Lib.hid hEx
        obtain ⟨⟨p0, p1, p2⟩, _⟩ := hX.three
        have i1 : (0 : Int) ≤ (k : Int) := by omega
        have i3 : (k : Int) < (n : Int) := by omega
        unfold ChgU at HCH
        generalize hwy : whyC (rowsQ q tU1 tT1) y.row y.rem = why at *
        have HWY := Lib.hid hwy
        clear hy hym hq hf hrr hkl hut hX hEx hwy
        by_cases hw0 : why = 0
        · subst hw0
          go_wp2_with (first
            | ((with_reducible refine (HCH.out).mono ?_); rintro e w4 ⟨rfl, hres⟩; have HRS : Hid (∃ tU' tT', TabSt w1.heap.size g cap2 [tU', tT'] w4 ∧ But [g] wx w4 ∧ UtAt (m + k + 1) tU' tT' ∧ ∀ q' f, netS f (rowsQ q' tU' tT') = netS f (rowsQ q' tU1 tT1) + (if q' = q then f y.row * oneE y.rem else 0)) := Lib.hid (by rcases hres with ⟨h1, _⟩ | ⟨_, h2⟩; exact absurd rfl h1; exact h2); clear hres))
          go_roundw
          case rel =>
            obtain ⟨tU2, tT2, h1, h2, h3, h4⟩ := HRS.out
            refine ⟨k + 1, tU2, tT2, by go_num, by omega, Lib.hid h1, Lib.hid ⟨?_, fun q' f => ?_⟩, Lib.hid (((But.of_ev (K := [g]) (HE.out.trans HEX.out)).then h2).ev fun z hz => by simp at hz; have := HG.out.1; omega)⟩
            · rw [HTK1.out, List.length_append, HKL.out]
              exact h3
            · rw [h4, HB.out.sum, HTK1.out, chS_snoc q' q _ y HQ.out f]
              omega
          case measure => simp [intOf]; omega
        · go_wp2_with (first
            | ((with_reducible refine (HCH.out).mono ?_); rintro e w4 ⟨rfl, hres⟩; have HRS : Hid (Ev wx w4) := Lib.hid (by rcases hres with ⟨_, h1⟩ | ⟨h2, _⟩; exact h1; exact absurd h2 hw0); clear hres))
          (try simp only [Exit.inBlock, Exit.then])
          refine bodyPost_ret (results_tmp4 rfl _ _ _) rfl ?_
          unfold ApplyOut
          exact ⟨(HE.out.trans HEX.out).trans HRS.out, .inr ⟨k, why, rfl, hw0, .inr ⟨by rw [HL.out]; exact HTKN.out, q, y, tU1, tT1, HY.out, HQ.out, HB.out, HWY.out.symm⟩⟩⟩
      · obtain rfl : k = n := by omega
        have HT9 : Hid (l.take k = l) := Lib.hid (List.take_of_length_le (by rw [HL.out]; exact Nat.le_refl _))
        go_wp2_with (first
          | ((with_reducible refine (HDLT.out _ HE.out).mono ?_); rintro e w5 ⟨A5, n5, c5, Z5, dT5, dU5, rfl, hd1, hd2, hd3, hd4⟩; have HD1 := Lib.hid hd1; have HD2 := Lib.hid hd2; have HD3 := Lib.hid hd3; have HD4 := Lib.hid hd4; clear hd1 hd2 hd3 hd4))
        (try simp only [Exit.inBlock, Exit.then])
        refine bodyPost_ret (results_tmp4 rfl _ _ _) rfl ?_
        unfold ApplyOut
        have hb := HB.out
        rw [HT9.out] at hb
        have hts := HT.out.ev HD1.out.ev
        refine ⟨HE.out.trans HD1.out.ev, .inl ⟨g, cap2, tU1, tT1, A5, n5, c5, Z5, dT5, dU5, rfl, by rw [HL.out]; exact HTN.out.1, by rw [HL.out]; exact HTN.out.2, ⟨?_, hts.pv, hts.each⟩, hb, HD1.out.sl, fun d hd => (HD1.out.each d hd).less HE.out.size, HD2.out, HD3.out, HD4.out⟩⟩
        exact hts.own.lowB E1.out.size
  · have HTKN := Lib.hid htk
    generalize hty : takenN n = why at *
    have HTY := Lib.hid hty
    clear hty HTKN
    go_enter Tryz.func20, Tryz.ntmps20
    go_wp2_with (first
      | ((with_reducible refine (HTK.out).mono ?_); rintro e w1 ⟨rfl, hE1⟩; have E1 := Lib.hid hE1; clear hE1))
    (try simp only [Exit.inBlock, Exit.then])
    refine bodyPost_ret (results_tmp4 rfl _ _ _) rfl ?_
    unfold ApplyOut
    exact ⟨E1.out, .inr ⟨0, why, rfl, htk, .inl ⟨by rw [HL.out]; exact HTY.out, rfl⟩⟩⟩
end Go.Proofs.YthpiobkghfdkkaaGreat

namespace Go.Proofs.YthpiobkghfdkkaaGreat
open Go.RowKit
set_option linter.unusedVariables false

theorem tameU_fits (r : List V) : fitsL ucols (tameU r) = true := by
  unfold tameU fitsL ucols numV rightVV rightV
  simp [fitsL, rightVV, rightV]
theorem tameT_fits (r : List V) : fitsL tcols (tameT r) = true := by
  have h := cut2_size (r.getD 1 nullV).2.2
  unfold tameT
  generalize cut2 (r.getD 1 nullV).2.2 = s at h ⊢
  simp [fitsL, tcols, numV, rightVV, rightV]
  omega
def tameX (q : Bool) (r : List V) : List V := if q then tameT r else tameU r
theorem tameX_fits (q : Bool) (r : List V) : fitsL (colsX q) (tameX q r) = true := by
  cases q
  · exact tameU_fits r
  · exact tameT_fits r
theorem tameX_right (q : Bool) (r : List V) : rightR (tameX q r) = true := by
  cases q
  · exact tameU_right r
  · exact tameT_right r
/-- Rows, each added once. -/
def Ones (q : Bool) (l : List I) : Prop := ∀ x ∈ l, fitsL (colsX q) x.1 = true ∧ rightR x.1 = true ∧ x.2 = (1, 0)
theorem Ones.addI {q : Bool} {l : List I} (h : Ones q l) : ∀ x ∈ l, AddI x := fun x hx => by
  obtain ⟨_, h2, h3⟩ := h x hx
  exact ⟨h2, by rw [h3]; exact Int.le_refl _, by rw [h3]; decide, by rw [h3]⟩
theorem netS_ones : ∀ l : List I, (∀ x ∈ l, x.2 = (1, 0)) → netS (fun _ => 1) l = l.length
  | [], _ => rfl
  | x :: l, h => by
    rw [netS_cons, netS_ones l fun y hy => h y (List.mem_cons_of_mem _ hy)]
    have h1 := h x (List.mem_cons_self ..)
    have h2 : netI x = 1 := by unfold netI; rw [h1]; rfl
    rw [h2, List.length_cons]
    omega
theorem absS_nn : ∀ S : List I, (∀ x ∈ S, 0 ≤ netI x) → (absS S : Int) = netS (fun _ => 1) S
  | [], _ => rfl
  | x :: S, h => by
    have h1 := absS_nn S fun y hy => h y (List.mem_cons_of_mem _ hy)
    have h2 := h x (List.mem_cons_self ..)
    rw [netS_cons, absS_cons, ← h1]
    omega
/-- The set of such rows. -/
theorem sok_of {q : Bool} {m n : Nat} {S l : List I} (hS : PSet m S) (hl : Ones q l) (he : ∀ f, netS f S = netS f l) (hn : l.length ≤ n) : SOk q n S := by
  have h1 := hS.nn.adds hS.z
  refine ⟨⟨hS.z.set, ?_⟩, hS.nn, fun x hx => ?_⟩
  · have h2 := absS_nn S fun x hx => by have := h1 x hx; unfold netI; omega
    rw [he, netS_ones l fun x hx => (hl x hx).2.2] at h2
    omega
  · have h2 : cnt x.1 S = netI x := cnt_mem hS.z x hx
    have h3 := h1 x hx
    by_cases hy : ∃ y ∈ l, y.1 = x.1
    · obtain ⟨y, hy, e⟩ := hy
      rw [← e]
      exact (hl y hy).1
    · have h4 : cnt x.1 l = 0 := cnt_none fun y hy' e => hy ⟨y, hy', e⟩
      rw [cnt, he] at h2
      rw [cnt, h2] at h4
      unfold netI at h4
      omega
theorem Ones.snoc {q : Bool} {l : List I} (h : Ones q l) (r : List V) : Ones q (l ++ [(tameX q r, 1, 0)]) := fun x hx => by
  rcases List.mem_append.1 hx with hx | hx
  · exact h x hx
  · rw [List.mem_singleton.1 hx]
    exact ⟨tameX_fits q r, tameX_right q r, rfl⟩

theorem MkSt.but {w wr wq : World} {v vo : Value} {Z Zo : List J} (h : MkSt w v Z wr) (ho : MkSt w vo Zo wr) (hb : But (foot vo) wr wq) (hd : ∀ g ∈ foot v, g ∉ foot vo) : MkSt w v Z wq := by
  refine ⟨h.own.but hb fun g hg => hd g (mem_foot.2 hg), fun g hg cs T q hc u hu => ?_, fun z hz => ⟨vs_past ho.own ho.pv hb (h.rows z hz).1, fun ad ea => ⟨((h.rows z hz).2 ad ea).1, Nat.lt_of_lt_of_le ((h.rows z hz).2 ad ea).2 hb.size⟩⟩, h.right⟩
  have h1 := (h.own.lt hg).2
  exact h.pv g hg cs T q (by rw [← hb.block g h1 (hd g (mem_foot.2 hg))]; exact hc) u hu
theorem MkSt.snoc_ {w wq w9 : World} {v v9 : Value} {Z : List J} {y : J} (h : MkSt w v Z wq) (h3 : Vs wq y.1.1 y.1.2.1 y.1.2.2 y.2.1) (h4 : ∀ ad, y.1.1 = some ad → w.heap.size ≤ ad.block ∧ ad.block < wq.heap.size) (hx : y.2.1 ≠ [])
    (hA : AppSt 62 2 jcells w.heap.size wq v (Z ++ [y]) v9 w9) (hP : OwP PvI w9 v9) : MkSt w v9 (Z ++ [y]) w9 := by
  refine ⟨hA.1, hP, fun z hz => ?_, fun z hz => ?_⟩
  · rcases List.mem_append.1 hz with hz | hz
    · exact ⟨vs_past h.own h.pv hA.2.1 (h.rows z hz).1, fun ad ea => ⟨((h.rows z hz).2 ad ea).1, Nat.lt_of_lt_of_le ((h.rows z hz).2 ad ea).2 hA.2.1.size⟩⟩
    · rw [List.mem_singleton.1 hz]
      exact ⟨vs_past h.own h.pv hA.2.1 h3, fun ad ea => ⟨(h4 ad ea).1, Nat.lt_of_lt_of_le (h4 ad ea).2 hA.2.1.size⟩⟩
  · rcases List.mem_append.1 hz with hz | hz
    · exact h.right z hz
    · rw [List.mem_singleton.1 hz]
      exact hx
/-- Two slices of items, t's and u's. -/
structure TwSt (w1 : World) (tv uv : Value) (Zt Zu : List J) (wr : World) : Prop where
  t : MkSt w1 tv Zt wr
  u : MkSt w1 uv Zu wr
  apart : ∀ g ∈ foot tv, g ∉ foot uv
  ev : Ev w1 wr
theorem TwSt.swap {w1 wr : World} {tv uv : Value} {Zt Zu : List J} (h : TwSt w1 tv uv Zt Zu wr) : TwSt w1 uv tv Zu Zt wr := ⟨h.u, h.t, fun g h1 h2 => h.apart g h2 h1, h.ev⟩
theorem TwSt.up {w1 wr wq : World} {tv uv : Value} {Zt Zu : List J} (h : TwSt w1 tv uv Zt Zu wr) (hE : Ev wr wq) : TwSt w1 tv uv Zt Zu wq := ⟨h.t.ev hE, h.u.ev hE, h.apart, h.ev.trans hE⟩
theorem TwSt.start (w : World) : TwSt w (.slice none 0 0) (.slice none 0 0) [] [] w := ⟨MkSt.start w w, MkSt.start w w, (fun g hg => by simp [foot, Value.ownBlock] at hg), Ev.refl w⟩
theorem TwSt.app {w1 wq : World} {tv : Value} {A : Option Addr} {n c : Nat} {Zt Zu : List J} {y : J} (h : TwSt w1 tv (.slice A n c) Zt Zu wq) (h3 : Vs wq y.1.1 y.1.2.1 y.1.2.2 y.2.1) (h4 : ∀ ad, y.1.1 = some ad → w1.heap.size ≤ ad.block ∧ ad.block < wq.heap.size) (hx : y.2.1 ≠ []) (hn : Zu.length < 1000000) :
    ∃ A' c' w', (Builtin.append_ #[40, 40] 40 #[.slice A n c, .slice (some ⟨wq.heap.size, 0, none⟩) 1 1]).run Tryz.prog (wq.alloc (.cells #[.slice y.1.1 y.1.2.1 y.1.2.2, .complex .f64 (fl y.2.2.1) (fl y.2.2.2)] 62)) = .ok (.slice A' (n + 1) c') w' ∧ TwSt w1 tv (.slice A' (n + 1) c') Zt (Zu ++ [y]) w' := by
  have hl : Zu.length = n := h.u.sl.len
  have hE1 := Ev.alloc wq (.cells #[.slice y.1.1 y.1.2.1 y.1.2.2, .complex .f64 (fl y.2.2.1) (fl y.2.2.2)] 62)
  have h1 := h.up hE1
  obtain ⟨v', w', hr, hA, hP⟩ := run_append_owPm (P := Tryz.prog) PvI encJ 40 40 Tryz.underlying40 Tryz.infoItemJ rfl h1.u.own (some ⟨wq.heap.size, 0, none⟩) 1 1 [y] (Sl.one (et := 62) encJ wq y #[.slice y.1.1 y.1.2.1 y.1.2.2, .complex .f64 (fl y.2.2.1) (fl y.2.2.2)] rfl) (by omega) (by simp; omega) (by simp; omega) h1.ev.size pvi_zero (fun z _ => pvi_j z) h1.u.pv
  have h2 := h1.u.snoc_ (h3.ev hE1) (fun ad ea => ⟨(h4 ad ea).1, Nat.lt_of_lt_of_le (h4 ad ea).2 hE1.size⟩) hx hA hP
  have h5 := h1.t.but h1.u hA.2.1 h1.apart
  have h6 : ∀ g ∈ foot tv, g ∉ foot v' := fun g hg hm => by
    rcases hA.2.2 g (mem_foot.1 hm) with h7 | h7
    · exact h1.apart g hg (mem_foot.2 h7)
    · have := (h1.t.high g hg).2
      omega
  have h8 : Ev w1 w' := ((But.of_ev h1.ev).then hA.2.1).ev fun g hg => (h1.u.high g hg).1
  obtain ⟨A', c', rfl, _⟩ := h2.own.form encJ
  rw [List.length_append, hl] at hr h2 h6
  exact ⟨A', c', w', hr, h5, h2, h6, h8⟩
/-- Two tables in memory. -/
theorem two_tabs {g : Nat} {w : World} {tU tT : TM} (h : Bx 45 g #[.string ⟨tU.name.toArray⟩, .slice tU.cA tU.cols.length tU.cc, .slice tU.rA tU.rows.length tU.rc, .string ⟨tT.name.toArray⟩, .slice tT.cA tT.cols.length tT.cc, .slice tT.rA tT.rows.length tT.rc] w) : Sl 3 tc w (some ⟨g, 0, none⟩) 2 2 [tU, tT] :=
  ⟨rfl, Nat.le_refl _, by omega, (fun e => by cases e), fun _ => ⟨g, 0, rfl, h.lt, fun i x hx j u hu => by
    match i, hx with
    | 0, hx =>
      obtain rfl := Option.some.inj hx
      match j, hu with
      | 0, hu => rw [h.cell]; exact hu
      | 1, hu => rw [h.cell]; exact hu
      | 2, hu => rw [h.cell]; exact hu
    | 1, hx =>
      obtain rfl := Option.some.inj hx
      match j, hu with
      | 0, hu => rw [h.cell]; exact hu
      | 1, hu => rw [h.cell]; exact hu
      | 2, hu => rw [h.cell]; exact hu
    | _ + 2, hx => simp at hx⟩⟩
end Go.Proofs.YthpiobkghfdkkaaGreat
