/-
  Texts that belong together: The walk of ExprBack.
-/
import Derived.Deep.DeepCutAuto
import Derived.Test.YtnljagmpeifikaaDoorZ26B
import Derived.Test.YtnljagmpeifikaaDoorZ24B
import Derived.Test.YtnljagmpeifikaaDoorZ23B
import Derived.Test.YtnljagmpeifikaaDoorZ16B
import Derived.Test.YtnljagmpeifikaaDoorZ27B
namespace Go.Proofs.YtnljagmpeifikaaDoor
open Go.RowKit
set_option linter.unusedVariables false

theorem run_load_box3 {P : Program} {ρ : Operand → Value} {o : Oper} {x : Operand} {T : TypeId} {g : Nat} {cs : Array Value} {w : World} {d : TypeDesc} (ho : o.op = .load T x) (hx : ρ x = .pointer (some ⟨g, 0, none⟩)) (hB : Bx T g cs w)
    (hu : P.underlying T = some d) (hd : (match d with | .struct _ | .array _ _ => true | _ => false) = true) (hi : (P.info? T).map (·.size) = some cs.size) :
    (execOp ρ o).run P w = .ok (.value (.agg cs)) w := by
  have h := run_loadVar_row w g T T _ (0, 0) _ hB.blk hu hd hi
  unfold execOp
  rw [ho]
  simp only [hx, Instr.loadAt, Instr.sureAddr, Sem.run_bind, Sem.run_pure, Result.andThen_ok, h]
theorem keep_one3 (x y : M) (w1 : World) (A B : Option Addr) (hA : Es w1 A 1 1 [x]) (hB : Es w1 B 1 1 [y]) (hx : Lx 0 [] w1 x) (hy : Lx 0 [] w1 y) (he : x.t = y.t) :
    Calls Tryd.prog 8 #[.slice A 1 1, .slice B 1 1] w1 fun e w' => e = .returned (.bool true) ∧ Ev w1 w' :=
  keep_exprs _ [x] [y] 0 0 w1 A 1 1 B 1 (Nat.le_refl _) (by simp [he]) hA hB (fun z hz => by simp at hz; subst hz; exact hx) (fun z hz => by simp at hz; subst hz; exact hy)
def OneE (x : M) (v : Value) (w : World) : Prop := ∃ g, v = .slice (some ⟨g, 0, none⟩) 1 1 ∧ Es w (some ⟨g, 0, none⟩) 1 1 [x]
theorem OneE.mono (x : M) : Mono (OneE x) := fun v w w' hE h => by
  obtain ⟨g, e, hS⟩ := h
  exact ⟨g, e, hS.ev hE⟩
def TreeF (t : T) (v : Value) (w : World) : Prop := ∃ m : M, v = .agg #[.int .i64 m.kind, .string ⟨m.s.toArray⟩, .int .i64 m.n, .slice m.A m.kids.length m.cap, .int .i64 (m.pos : Int)] ∧ m.t = t ∧ Lies 0 [] w m
theorem TreeF.mono (t : T) : Mono (TreeF t) := fun v w w' hE h => by
  obtain ⟨m, e, ht, hL⟩ := h
  exact ⟨m, e, ht, hL.ev hE⟩
theorem sum_2 : ∀ l : List T, (∀ t ∈ l, (xTree t).size ≤ 2 * t.size) → ((l.map xTree).map T.size).sum ≤ 2 * (l.map T.size).sum
  | [], _ => by simp
  | a :: l, h => by
    have h1 := h a (List.mem_cons_self ..)
    have h2 := sum_2 l fun t ht => h t (List.mem_cons_of_mem _ ht)
    simp only [List.map_cons, List.sum_cons]
    omega
mutual
theorem xTree_small : ∀ t : T, (xTree t).size ≤ 2 * t.size ∧ (t.every fairB = true → (xTree t).every fairB = true)
  | .mk k s n l p => by
    have hl := xTrees_small l
    have hp := T.size_pos (.mk k s n l p)
    have hz := T.size_eq (.mk k s n l p)
    have hs := sum_2 l fun t ht => (hl t ht).1
    have hi0 : i64R 0 := by decide
    simp only [T.kids] at hz
    rw [xTree]
    constructor
    · split
      · simp [T.size, T.sizes]; omega
      split
      · simp [T.size, T.sizes]; omega
      split
      · simp [T.size, T.sizes]; omega
      · rw [T.size_eq, xTrees_map]
        simp only [T.kids, List.map_cons, List.sum_cons]
        have h1 : (T.mk 2 s 0 [] 0).size = 1 := rfl
        omega
    · intro hf
      rw [T.every, T.everys_all, Bool.and_eq_true, List.all_eq_true] at hf
      obtain ⟨h1, h2⟩ := fairB_of hf.1
      have hleaf : ∀ (k' : Int) (s' : By) (n' : Int), i64R n' → s'.length ≤ 100000 → (T.mk k' s' n' [] 0).every fairB = true := fun k' s' n' a b => by
        rw [T.every, fairB_mk a b]
        rfl
      split
      · exact hleaf _ _ _ hi0 h2
      split
      · exact hleaf _ _ _ h1 (by simp)
      split
      · exact hleaf _ _ _ hi0 h2
      · rw [T.every, T.everys_all, fairB_mk hi0 (by simp), Bool.true_and, List.all_cons, hleaf _ _ _ hi0 h2, Bool.true_and, xTrees_map, List.all_map, List.all_eq_true]
        exact fun t ht => (hl t ht).2 (hf.2 t ht)
theorem xTrees_small : ∀ l : List T, ∀ t ∈ l, (xTree t).size ≤ 2 * t.size ∧ (t.every fairB = true → (xTree t).every fairB = true)
  | [] => fun t ht => by cases ht
  | a :: l => by
    intro t ht
    rcases List.mem_cons.1 ht with h3 | h3
    · rw [h3]; exact xTree_small a
    · exact xTrees_small l t h3
end
theorem xTree_pos (t : T) : (xTree t).pos = 0 := by
  cases t with
  | mk k s n l p =>
    rw [xTree]
    split
    · rfl
    split
    · rfl
    split <;> rfl

set_option maxRecDepth 100000 in
set_option maxHeartbeats 32000000 in
theorem back_walk (s0 : ByteArray) (w : World) (hTab : Tab w) (u0 : s0.size ≤ maxLen) :
    Calls Tryd.prog 3 #[.string s0] w fun e w' => e = .returned (.bool true) ∧ Ev w w' := by
  have hmix : Tryd.prog.follows .mixedOrders = true := by kernel_rfl
  unfold maxLen at u0
  have HTAB := Lib.hid hTab
  clear hTab
  go_enter Tryd.func3, Tryd.ntmps3
  go_upto_if 15 with fail
  go_cut [0] (fun v wx => ∃ s1 : ByteArray, v = .string s1 ∧ s1.size ≤ 600 ∧ w = wx)
  case first =>
    by_cases hs : (600 : Int) < (s0.size : Int)
    · have hz : (s0.extract 0 600).size = 600 := by
        have h1 : (s0.extract 0 600).data.toList.length = (s0.extract 0 600).size := by rw [Array.length_toList]; rfl
        have h2 : s0.data.toList.length = s0.size := by rw [Array.length_toList]; rfl
        rw [← h1, Lib.extract_eq, List.drop_zero, List.length_take, h2]
        omega
      have HZ := Lib.hid hz
      have i1 : (600 : Int) ≤ (s0.size : Int) := by omega
      clear hz
      go_wp2_with fail
      go_meet
      exact ⟨s0.extract 0 600, rfl, by rw [HZ.out]; exact Nat.le_refl _, rfl⟩
    · go_wp2_with fail
      go_meet
      exact ⟨s0, rfl, by omega, rfl⟩
  case rest =>
  obtain ⟨s1, rfl, hs1, rfl⟩ := hcut
  clear u0
  have hsm := rf_small s1.data.toList
  have htx := rf_texts s1.data.toList
  have HR := fun w1 => rf_read s1 w1 (by omega)
  have HKn := Lib.hid (fun w1 => known8_any w1)
  unfold ReadOut at HR
  generalize rfRead s1.data.toList = R at *
  obtain ⟨Rt, Rw, Rp⟩ := R
  simp only at HR hsm htx
  by_cases hw : Rw = 0
  · subst hw
    have HR := Lib.hid HR
    obtain ⟨hfair, hsz⟩ := hsm
    have HO := Lib.hid (fun (m : M) w0 w1 (hm : m.t = Rt) (hL : Lies w0 [] w1 m) => by
      have h := law8_out m.dep m w0 w1 (Nat.le_refl _) hL (by rw [hm]; omega)
      unfold mv M.kv TrOut at h
      exact h)
    have HRD := Lib.hid (fun (m : M) w0 w1 (hm : m.t = Rt) (hL : Lies w0 [] w1 m) => by
      have h := ex_Read m w0 w1 hL (by rw [hm]; exact hfair) (by rw [hm]; omega)
      rw [hm] at h
      unfold RxOut at h
      exact h)
    have hxf := xRead_fair Rt hfair
    have hxz := xRead_size Rt
    have hxt := xRead_texts Rt htx
    have hxr := xRead_right Rt
    have hx0 := xRead_zero Rt
    have hbk := back_tree Rt
    have HFT := Lib.hid (fits_fair Rt hfair)
    have HSZ := Lib.hid hsz
    unfold BackT at hbk
    clear hfair htx
    generalize xRead Rt = RR at *
    obtain ⟨RT, RE, RP⟩ := RR
    simp only at HRD hxf hxz hxt hxr hx0 hbk
    by_cases hre : RE = 0
    · subst hre
      have hrg := hxr rfl
      obtain ⟨hb1, hb2⟩ := hbk rfl
      obtain ⟨hp1, hp2, hp3⟩ := shown_any RT hrg hxt hxf
      obtain ⟨hz1, hz2⟩ := xTree_small RT
      have hz2 := hz2 hxf
      have HTREE := Lib.hid (fun (x : M) w0 w1 (hm : x.t = RT) (hL : Lx w0 [] w1 x) => by
        have h := ex_Tree x w0 w1 hL (by rw [hm]; exact hrg) (by rw [hm]; omega) (by rw [hm]; exact fair_short hxf)
        rw [hm] at h
        unfold ev_ M.kv TrOut at h
        exact h)
      have HRD2 := Lib.hid (fun (m : M) w0 w1 (hm : m.t = xTree RT) (hL : Lies w0 [] w1 m) => by
        have h := ex_Read m w0 w1 hL (by rw [hm]; exact hz2) (by rw [hm]; omega)
        rw [hm, hb1] at h
        unfold RxOut at h
        exact h)
      obtain ⟨PS, hPS⟩ : ∃ PS : ByteArray, PS = ⟨(printS Rt).toArray⟩ := ⟨_, rfl⟩
      have HB2 := Lib.hid hb2
      have HP1 := Lib.hid hp1
      have HP2 := Lib.hid hp2
      have HP3 := Lib.hid hp3
      have HPS := Lib.hid hPS
      have HZ := Lib.hid hxz
      have HZ1 := Lib.hid hz1
      clear hrg hb1 hb2 hp1 hp2 hp3 hz1 hz2 hxf hxz hxt hxr hx0 hbk hPS
      go_upto_region 12 with (first
        | ((with_reducible refine (HR.out _).mono ?_); rintro r w1 ⟨m, rfl, hmt, hml, hE1⟩; simp only []; have HMT := Lib.hid hmt; have HML := Lib.hid (hml.ev (Ev.alloc w1 (.cells #[.int .i64 m.kind, .string ⟨m.s.toArray⟩, .int .i64 m.n, .slice m.A m.kids.length m.cap, .int .i64 (m.pos : Int)] 24))); have HE1 := Lib.hid (hE1.trans (Ev.alloc w1 (.cells #[.int .i64 m.kind, .string ⟨m.s.toArray⟩, .int .i64 m.n, .slice m.A m.kids.length m.cap, .int .i64 (m.pos : Int)] 24))); have BMH := Lib.hid (Bx.new 24 #[.int .i64 m.kind, .string ⟨m.s.toArray⟩, .int .i64 m.n, .slice m.A m.kids.length m.cap, .int .i64 (m.pos : Int)] w1); clear hmt hml; obtain ⟨⟨c0, c1, c2, c3, c4⟩, _⟩ := BMH.out.five)
        | ((with_reducible refine (HO.out m _ _ HMT.out HML.out).mono ?_); rintro r w2 ⟨m2, rfl, hm2t, hm2l, hE2⟩; have HM2T := Lib.hid (hm2t.trans HMT.out); have HM2L := Lib.hid hm2l; have HE2 := Lib.hid hE2; clear hm2t hm2l)
        | ((with_reducible refine (HRD.out m2 _ _ HM2T.out HM2L.out).mono ?_); rintro r w3 ⟨x, rfl, hx1t, hx1l, hE3⟩; simp only []; have HXT1 := Lib.hid hx1t; have HXL := Lib.hid (hx1l.ev (Ev.alloc w3 (.cells #[.int .i64 x.kind, .string ⟨x.s.toArray⟩, .int .i64 x.n, .slice x.A x.kids.length x.cap] 30))); have HE3 := Lib.hid ((HE2.out.trans hE3).trans (Ev.alloc w3 (.cells #[.int .i64 x.kind, .string ⟨x.s.toArray⟩, .int .i64 x.n, .slice x.A x.kids.length x.cap] 30))); have BXH := Lib.hid (Bx.new 30 #[.int .i64 x.kind, .string ⟨x.s.toArray⟩, .int .i64 x.n, .slice x.A x.kids.length x.cap] w3); clear hx1t hx1l c0 c1 c2 c3 c4; obtain ⟨⟨c0, c1, c2, c3⟩, _⟩ := BXH.out.four)
        | ((with_reducible refine (HTREE.out x _ _ HXT1.out HXL.out).mono ?_); rintro r w4 ⟨u, rfl, hut, hul, hE4⟩; have HUT := Lib.hid hut; have HUL := Lib.hid hul; have HE4 := Lib.hid hE4; have BTH := Lib.hid (Bx.new 36 #[.int .i64 u.kind, .string ⟨u.s.toArray⟩, .int .i64 u.n, .slice u.A u.kids.length u.cap, .int .i64 (u.pos : Int)] w4); clear hut hul c0 c1 c2 c3; obtain ⟨⟨c0, c1, c2, c3, c4⟩, _⟩ := BTH.out.five)
        | ((with_reducible refine (HRD2.out u _ _ HUT.out (HUL.out.ev (Ev.alloc w4 (.cells #[.int .i64 u.kind, .string ⟨u.s.toArray⟩, .int .i64 u.n, .slice u.A u.kids.length u.cap, .int .i64 (u.pos : Int)] 36)))).mono ?_); rintro r w5 ⟨y, rfl, hyt, hyl, hE5⟩; simp only []; have HYT := Lib.hid hyt; have HYL := Lib.hid hyl; have HE5 := Lib.hid hE5; have BYH := Lib.hid (Bx.new 30 #[.int .i64 y.kind, .string ⟨y.s.toArray⟩, .int .i64 y.n, .slice y.A y.kids.length y.cap] w5); clear hyt hyl c0 c1 c2 c3 c4; obtain ⟨⟨c0, c1, c2, c3, c4⟩, q0, q1, q2, q3, q4⟩ := ((BTH.out.ev hE5).ev (Ev.alloc w5 (.cells #[.int .i64 y.kind, .string ⟨y.s.toArray⟩, .int .i64 y.n, .slice y.A y.kids.length y.cap] 30))).five))
      have hg4 : (w4.alloc (.cells #[.int .i64 u.kind, .string ⟨u.s.toArray⟩, .int .i64 u.n, .slice u.A u.kids.length u.cap, .int .i64 (u.pos : Int)] 36)).heap.size = w4.heap.size + 1 := by simp
      have HE6 := Lib.hid (HE5.out.trans (Ev.alloc w5 (.cells #[.int .i64 y.kind, .string ⟨y.s.toArray⟩, .int .i64 y.n, .slice y.A y.kids.length y.cap] 30)))
      have hbut : But [w4.heap.size] (w5.alloc (.cells #[.int .i64 y.kind, .string ⟨y.s.toArray⟩, .int .i64 y.n, .slice y.A y.kids.length y.cap] 30)) ((w5.alloc (.cells #[.int .i64 y.kind, .string ⟨y.s.toArray⟩, .int .i64 y.n, .slice y.A y.kids.length y.cap] 30)).setCell ⟨w4.heap.size, 4, none⟩ (.int .i64 0)) := But.setCell _ _ (by simp)
      have hlt3 : w3.heap.size < w4.heap.size := Nat.lt_of_lt_of_le BXH.out.lt HE4.out.size
      have hlt1 : w1.heap.size < w4.heap.size := Nat.lt_of_lt_of_le BMH.out.lt (HE3.out.trans HE4.out).size
      have hlt5 : w4.heap.size < w5.heap.size := by have := HE5.out.size; omega
      have BX := ((BXH.out.ev HE4.out).ev ((Ev.alloc w4 _).trans HE6.out)).but hbut (by simp; omega)
      have BM := ((BMH.out.ev (HE3.out.trans HE4.out)).ev ((Ev.alloc w4 _).trans HE6.out)).but hbut (by simp; omega)
      have BY := BYH.out.but hbut (by simp; omega)
      have BT := (BTH.out.ev HE6.out).set 4 (.int .i64 0)
      rw [show (#[.int .i64 u.kind, .string ⟨u.s.toArray⟩, .int .i64 u.n, .slice u.A u.kids.length u.cap, .int .i64 (u.pos : Int)] : Array Value).setIfInBounds 4 (.int .i64 0) = #[.int .i64 u.kind, .string ⟨u.s.toArray⟩, .int .i64 u.n, .slice u.A u.kids.length u.cap, .int .i64 0] by simp] at BT
      have LX := ((((HXL.out.ev HE4.out).less (K' := [w4.heap.size]) (fun k hk => by simp at hk; subst hk; exact .inr (.inr (Nat.le_refl _)))).ev ((Ev.alloc w4 (.cells #[.int .i64 u.kind, .string ⟨u.s.toArray⟩, .int .i64 u.n, .slice u.A u.kids.length u.cap, .int .i64 (u.pos : Int)] 36)).trans HE6.out)).move hbut (K' := []) (fun k hk => by cases hk)).low (Nat.zero_le _)
      have LM := ((((HML.out.ev (HE3.out.trans HE4.out)).less (K' := [w4.heap.size]) (fun k hk => by simp at hk; subst hk; exact .inr (.inr (Nat.le_refl _)))).ev ((Ev.alloc w4 (.cells #[.int .i64 u.kind, .string ⟨u.s.toArray⟩, .int .i64 u.n, .slice u.A u.kids.length u.cap, .int .i64 (u.pos : Int)] 36)).trans HE6.out)).move hbut (K' := []) (fun k hk => by cases hk))
      have LU := ((((HUL.out).less (K' := [w4.heap.size]) (fun k hk => by simp at hk; subst hk; exact .inr (.inr (Nat.le_refl _)))).ev ((Ev.alloc w4 (.cells #[.int .i64 u.kind, .string ⟨u.s.toArray⟩, .int .i64 u.n, .slice u.A u.kids.length u.cap, .int .i64 (u.pos : Int)] 36)).trans HE6.out)).move hbut (K' := []) (fun k hk => by cases hk))
      have LY := ((((HYL.out).less (K' := [w4.heap.size]) (fun k hk => by simp at hk; subst hk; exact .inr (.inl (by omega)))).ev (Ev.alloc w5 (.cells #[.int .i64 y.kind, .string ⟨y.s.toArray⟩, .int .i64 y.n, .slice y.A y.kids.length y.cap] 30))).move hbut (K' := []) (fun k hk => by cases hk)).low (Nat.zero_le _)
      have hall := ((((HE1.out.trans HE3.out).trans HE4.out).trans (Ev.alloc w4 (.cells #[.int .i64 u.kind, .string ⟨u.s.toArray⟩, .int .i64 u.n, .slice u.A u.kids.length u.cap, .int .i64 (u.pos : Int)] 36))).trans HE6.out).box hbut (by have := ((HE1.out.trans HE3.out).trans HE4.out).size; omega)
      generalize (w5.alloc (.cells #[.int .i64 y.kind, .string ⟨y.s.toArray⟩, .int .i64 y.n, .slice y.A y.kids.length y.cap] 30)).setCell ⟨w4.heap.size, 4, none⟩ (.int .i64 0) = wz at *
      have HYX := Lib.hid (HYT.out.trans HXT1.out.symm)
      have hup : (u.pos : Int) = 0 := by
        have := xTree_pos RT
        rw [← HUT.out, M.t_eq] at this
        have h2 : u.pos = 0 := this
        rw [h2]; rfl
      have hpu := fun w' (hE : Ev wz w') => sx_printAny (m := u) ((HTAB.out.ev hall).ev hE) (LU.ev hE) (by rw [HUT.out]; have := HZ1.out; have := HZ.out; have := HSZ.out; omega) (by rw [HUT.out]; have := HP2.out; have := HZ.out; have := HSZ.out; omega) (.inl (by rw [HUT.out]; intro h; have := HP1.out; rw [h] at this; simp at this)) (by rw [HUT.out]; exact HP3.out)
      rw [HUT.out, HB2.out, ← HPS.out, hup] at hpu
      have hpm := fun (m3 : M) w' (hE : Ev wz w') (h3 : m3.t = Rt) (hL : Lies 0 [] w' m3) => sx_printAny (m := m3) ((HTAB.out.ev hall).ev hE) hL (by rw [h3]; have := HSZ.out; omega) (by rw [h3, ← HB2.out]; have := HP2.out; have := HZ.out; have := HSZ.out; omega) (.inl (by rw [h3, ← HB2.out]; intro h; have := HP1.out; rw [h] at this; simp at this)) (by rw [h3]; exact HFT.out)
      have HPU := Lib.hid hpu
      have HPM : Hid (∀ (m3 : M) w', Ev wz w' → m3.t = Rt → Lies 0 [] w' m3 → Calls Tryd.prog 10 #[.agg #[.int .i64 m3.kind, .string ⟨m3.s.toArray⟩, .int .i64 m3.n, .slice m3.A m3.kids.length m3.cap, .int .i64 (m3.pos : Int)]] w' fun r w'' => r = .returned (.string PS) ∧ Ev w' w'') := Lib.hid fun m3 w' hE h3 hL => by
        have h := hpm m3 w' hE h3 hL
        rw [h3, ← HPS.out] at h
        exact h
      have HALL := Lib.hid hall
      generalize w4.heap.size = gt at *
      generalize w3.heap.size = gx at *
      generalize w1.heap.size = gm at *
      generalize w5.heap.size = gy at *
      clear hpu hpm hall hbut hg4 hlt1 hlt3 hlt5 HE1 HE2 HE3 HE4 HE5 HE6 BMH BXH BTH BYH HML HM2L HM2T HXL HUL HYL c0 c1 c2 c3 c4 q0 q1 q2 q3 q4 hup
      refine wp_region_slots hmix [fun v _ => v = .int .i64 0, fun v _ => v = .bool true, fun v _ => v = .bool true, fun v _ => v = .agg #[.int .i64 y.kind, .string ⟨y.s.toArray⟩, .int .i64 y.n, .slice y.A y.kids.length y.cap], OneE y, fun v _ => v = .agg #[.int .i64 x.kind, .string ⟨x.s.toArray⟩, .int .i64 x.n, .slice x.A x.kids.length x.cap], OneE x, fun v _ => v = .bool true, fun v _ => v = .bool true, fun v _ => v = .bool true, fun v _ => v = .agg #[.int .i64 u.kind, .string ⟨u.s.toArray⟩, .int .i64 u.n, .slice u.A u.kids.length u.cap, .int .i64 0], fun v _ => v = .string PS, fun v _ => v = .agg #[.int .i64 m.kind, .string ⟨m.s.toArray⟩, .int .i64 m.n, .slice m.A m.kids.length m.cap, .int .i64 (m.pos : Int)], TreeF Rt, fun v _ => v = .string PS, fun v _ => v = .bool true, fun v _ => v = .bool true, fun v _ => v = .bool true, fun v _ => v = .bool true, fun v _ => v = .bool true, fun v _ => v = .bool true]
        73 rfl (by kernel_rfl) ⟨mono_eq _, mono_eq _, mono_eq _, mono_eq _, OneE.mono _, mono_eq _, OneE.mono _, mono_eq _, mono_eq _, mono_eq _, mono_eq _, mono_eq _, mono_eq _, TreeF.mono _, mono_eq _, mono_eq _, mono_eq _, mono_eq _, mono_eq _, mono_eq _, mono_eq _, trivial⟩ ?_ ?_
      · refine ops_cons 0 ?_ (ops_cons 1 ?_ (ops_cons 2 ?_ (ops_cons 3 ?_ (ops_cons 4 ?_ (ops_cons 5 ?_ (ops_cons 6 ?_ (ops_cons 7 ?_ (ops_cons 8 ?_ (ops_cons 9 ?_ (ops_cons 10 ?_ (ops_cons 11 ?_ (ops_cons 12 ?_ (ops_cons 13 ?_ (ops_cons 14 ?_ (ops_cons 15 ?_ (ops_cons 16 ?_ (ops_cons 17 ?_ (ops_cons 18 ?_ (ops_cons 19 ?_ (ops_cons 20 ?_ (ops_nil 21)))))))))))))))))))))
        · refine op_value fun a w c => ⟨(wanted_plain rfl), _, run_move _ rfl w, (c.was 11 (by kernel_rfl) rfl)⟩
        · refine op_value fun a w c => ⟨(wanted_plain rfl), .bool true, ?_, rfl⟩
          have e53 : a.eval (.tmp 53) = .int .i64 0 := (c.new 0 53 (by kernel_rfl) (by kernel_rfl))
          have kc0 : a.eval (.const (.int .i64 0)) = .int .i64 0 := rfl
          generalize a.eval = ρ at e53 kc0 ⊢
          simp [execOp, e53, kc0, go_sem]
        · refine op_value fun a w c => ⟨(wanted_plain rfl), _, run_move _ rfl w, (c.new 1 54 (by kernel_rfl) (by kernel_rfl))⟩
        · refine op_value fun a wq c => ⟨(wanted_yes rfl (by kernel_rfl) (c.new 2 55 (by kernel_rfl) (by kernel_rfl))), _, run_load_box3 rfl ((c.was 10 (by kernel_rfl) rfl) : a.eval (.tmp 10) = .pointer (some ⟨gy, 0, none⟩)) (BY.ev c.ev) Tryd.underlying30 rfl Tryd.sizeExpr, rfl⟩
        · refine op_makes fun a wq c => ?_
          have e_0 : a.eval (.tmp 56) = .agg #[.int .i64 y.kind, .string ⟨y.s.toArray⟩, .int .i64 y.n, .slice y.A y.kids.length y.cap] := (c.new 3 56 (by kernel_rfl) (by kernel_rfl))
          refine ⟨(wanted_yes rfl (by kernel_rfl) (c.new 2 55 (by kernel_rfl) (by kernel_rfl))), .slice (some ⟨wq.heap.size, 0, none⟩) 1 1, wq.alloc (.cells #[.int .i64 y.kind, .string ⟨y.s.toArray⟩, .int .i64 y.n, .slice y.A y.kids.length y.cap] 30), ?_, Ev.alloc _ _, ⟨wq.heap.size, rfl, Sl.one (et := 30) encE wq y _ rfl⟩⟩
          generalize a.eval = ρ at e_0 ⊢
          simp [execOp, e_0, go_sem]
        · refine op_value fun a wq c => ⟨(wanted_yes rfl (by kernel_rfl) (c.new 2 55 (by kernel_rfl) (by kernel_rfl))), _, run_load_box3 rfl ((c.was 6 (by kernel_rfl) rfl) : a.eval (.tmp 6) = .pointer (some ⟨gx, 0, none⟩)) (BX.ev c.ev) Tryd.underlying30 rfl Tryd.sizeExpr, rfl⟩
        · refine op_makes fun a wq c => ?_
          have e_0 : a.eval (.tmp 58) = .agg #[.int .i64 x.kind, .string ⟨x.s.toArray⟩, .int .i64 x.n, .slice x.A x.kids.length x.cap] := (c.new 5 58 (by kernel_rfl) (by kernel_rfl))
          refine ⟨(wanted_yes rfl (by kernel_rfl) (c.new 2 55 (by kernel_rfl) (by kernel_rfl))), .slice (some ⟨wq.heap.size, 0, none⟩) 1 1, wq.alloc (.cells #[.int .i64 x.kind, .string ⟨x.s.toArray⟩, .int .i64 x.n, .slice x.A x.kids.length x.cap] 30), ?_, Ev.alloc _ _, ⟨wq.heap.size, rfl, Sl.one (et := 30) encE wq x _ rfl⟩⟩
          generalize a.eval = ρ at e_0 ⊢
          simp [execOp, e_0, go_sem]
        · refine op_call fun a wq c => ?_
          obtain ⟨g1_, eg1_, hA_⟩ := (c.got 4 57 (by kernel_rfl) (by kernel_rfl) rfl : OneE _ _ _)
          obtain ⟨g2_, eg2_, hB_⟩ := (c.got 6 59 (by kernel_rfl) (by kernel_rfl) rfl : OneE _ _ _)
          refine ⟨(wanted_yes rfl (by kernel_rfl) (c.new 2 55 (by kernel_rfl) (by kernel_rfl))), 8, #[.slice (some ⟨g1_, 0, none⟩) 1 1, .slice (some ⟨g2_, 0, none⟩) 1 1], ?_, ?_⟩
          · rw [run_call 8 _ _ rfl (by kernel_rfl)]
            simp [eg1_, eg2_]
          · refine (keep_one3 y x wq _ _ hA_ hB_ (LY.ev c.ev) (LX.ev c.ev) HYX.out).mono ?_
            rintro e wp ⟨rfl, hE⟩
            exact ⟨_, rfl, hE, rfl⟩
        · refine op_value fun a w c => ⟨(wanted_plain rfl), _, run_pick_true rfl (c.new 2 55 (by kernel_rfl) (by kernel_rfl)) w, (c.new 7 60 (by kernel_rfl) (by kernel_rfl))⟩
        · refine op_value fun a w c => ⟨(wanted_plain rfl), _, run_move _ rfl w, (c.new 8 61 (by kernel_rfl) (by kernel_rfl))⟩
        · refine op_value fun a wq c => ⟨(wanted_yes rfl (by kernel_rfl) (c.new 9 62 (by kernel_rfl) (by kernel_rfl))), _, run_load_box3 rfl ((c.was 9 (by kernel_rfl) rfl) : a.eval (.tmp 9) = .pointer (some ⟨gt, 0, none⟩)) (BT.ev c.ev) Tryd.underlying36 rfl Tryd.sizeTree, rfl⟩
        · refine op_call fun a w c => ⟨(wanted_yes rfl (by kernel_rfl) (c.new 9 62 (by kernel_rfl) (by kernel_rfl))), 10, #[.agg #[.int .i64 u.kind, .string ⟨u.s.toArray⟩, .int .i64 u.n, .slice u.A u.kids.length u.cap, .int .i64 0]], ?_, ?_⟩
          · rw [run_call 10 _ _ rfl (by kernel_rfl)]
            have e63 : a.eval (.tmp 63) = .agg #[.int .i64 u.kind, .string ⟨u.s.toArray⟩, .int .i64 u.n, .slice u.A u.kids.length u.cap, .int .i64 0] := (c.new 10 63 (by kernel_rfl) (by kernel_rfl))
            simp [e63]
          · refine (HPU.out w c.ev).mono ?_
            rintro e w2 ⟨rfl, hE⟩
            exact ⟨_, rfl, hE, rfl⟩
        · refine op_value fun a wq c => ⟨(wanted_yes rfl (by kernel_rfl) (c.new 9 62 (by kernel_rfl) (by kernel_rfl))), _, run_load_box3 rfl ((c.was 3 (by kernel_rfl) rfl) : a.eval (.tmp 3) = .pointer (some ⟨gm, 0, none⟩)) (BM.ev c.ev) Tryd.underlying24 rfl Tryd.sizeRTree, rfl⟩
        · refine op_call fun a wq c => ?_
          have e_0 : a.eval (.tmp 65) = .agg #[.int .i64 m.kind, .string ⟨m.s.toArray⟩, .int .i64 m.n, .slice m.A m.kids.length m.cap, .int .i64 (m.pos : Int)] := (c.new 12 65 (by kernel_rfl) (by kernel_rfl))
          refine ⟨(wanted_yes rfl (by kernel_rfl) (c.new 9 62 (by kernel_rfl) (by kernel_rfl))), 7, #[.agg #[.int .i64 m.kind, .string ⟨m.s.toArray⟩, .int .i64 m.n, .slice m.A m.kids.length m.cap, .int .i64 (m.pos : Int)]], ?_, ?_⟩
          · rw [run_call 7 _ _ rfl (by kernel_rfl)]
            simp [e_0]
          · refine (HO.out m _ wq HMT.out (LM.ev c.ev)).mono ?_
            rintro e wp ⟨m3, rfl, h3t, h3l, hE⟩
            exact ⟨_, rfl, hE, m3, rfl, h3t.trans HMT.out, h3l.low (Nat.zero_le _)⟩
        · refine op_call fun a wq c => ?_
          obtain ⟨m3, em3, h3t, h3l⟩ := (c.got 13 66 (by kernel_rfl) (by kernel_rfl) rfl : TreeF _ _ _)
          refine ⟨(wanted_yes rfl (by kernel_rfl) (c.new 9 62 (by kernel_rfl) (by kernel_rfl))), 10, #[.agg #[.int .i64 m3.kind, .string ⟨m3.s.toArray⟩, .int .i64 m3.n, .slice m3.A m3.kids.length m3.cap, .int .i64 (m3.pos : Int)]], ?_, ?_⟩
          · rw [run_call 10 _ _ rfl (by kernel_rfl)]
            simp [em3]
          · refine (HPM.out m3 wq c.ev h3t h3l).mono ?_
            rintro e wp ⟨rfl, hE⟩
            exact ⟨_, rfl, hE, rfl⟩
        · refine op_value fun a w c => ⟨(wanted_yes rfl (by kernel_rfl) (c.new 9 62 (by kernel_rfl) (by kernel_rfl))), .bool true, ?_, rfl⟩
          have e64 : a.eval (.tmp 64) = .string PS := (c.new 11 64 (by kernel_rfl) (by kernel_rfl))
          have e67 : a.eval (.tmp 67) = .string PS := (c.new 14 67 (by kernel_rfl) (by kernel_rfl))
          generalize a.eval = ρ at e64 e67 ⊢
          simp [execOp, e64, e67, go_sem]
        · refine op_value fun a w c => ⟨(wanted_plain rfl), _, run_pick_true rfl (c.new 9 62 (by kernel_rfl) (by kernel_rfl)) w, (c.new 15 68 (by kernel_rfl) (by kernel_rfl))⟩
        · refine op_value fun a w c => ⟨(wanted_plain rfl), _, run_move _ rfl w, (c.new 16 69 (by kernel_rfl) (by kernel_rfl))⟩
        · refine op_call fun a w c => ⟨(wanted_yes rfl (by kernel_rfl) (c.new 17 70 (by kernel_rfl) (by kernel_rfl))), 5, #[], ?_, ?_⟩
          · rw [run_call 5 _ _ rfl (by kernel_rfl)]
            simp
          · refine (HKn.out w).mono ?_
            rintro e w2 ⟨rfl, hE⟩
            exact ⟨_, rfl, hE, rfl⟩
        · refine op_value fun a w c => ⟨(wanted_plain rfl), _, run_pick_true rfl (c.new 17 70 (by kernel_rfl) (by kernel_rfl)) w, (c.new 18 71 (by kernel_rfl) (by kernel_rfl))⟩
        · refine op_value fun a w c => ⟨(wanted_plain rfl), _, run_assign _ rfl w, (c.new 19 72 (by kernel_rfl) (by kernel_rfl))⟩
      intro sl v12 hEr hold hnew
      have f3 : sl 3 = .pointer (some ⟨gm, 0, none⟩) := hold 3 (by kernel_rfl)
      have f6 : sl 6 = .pointer (some ⟨gx, 0, none⟩) := hold 6 (by kernel_rfl)
      have f9 : sl 9 = .pointer (some ⟨gt, 0, none⟩) := hold 9 (by kernel_rfl)
      have f10 : sl 10 = .pointer (some ⟨gy, 0, none⟩) := hold 10 (by kernel_rfl)
      have f11 : sl 11 = .int .i64 0 := hold 11 (by kernel_rfl)
      have f2 : sl 2 = .bool true := hnew 20 2 (by kernel_rfl)
      have f53 : sl 53 = .int .i64 0 := hnew 0 53 (by kernel_rfl)
      have f54 : sl 54 = .bool true := hnew 1 54 (by kernel_rfl)
      have f55 : sl 55 = .bool true := hnew 2 55 (by kernel_rfl)
      have f56 : sl 56 = .agg #[.int .i64 y.kind, .string ⟨y.s.toArray⟩, .int .i64 y.n, .slice y.A y.kids.length y.cap] := hnew 3 56 (by kernel_rfl)
      have f58 : sl 58 = .agg #[.int .i64 x.kind, .string ⟨x.s.toArray⟩, .int .i64 x.n, .slice x.A x.kids.length x.cap] := hnew 5 58 (by kernel_rfl)
      have f60 : sl 60 = .bool true := hnew 7 60 (by kernel_rfl)
      have f61 : sl 61 = .bool true := hnew 8 61 (by kernel_rfl)
      have f62 : sl 62 = .bool true := hnew 9 62 (by kernel_rfl)
      have f63 : sl 63 = .agg #[.int .i64 u.kind, .string ⟨u.s.toArray⟩, .int .i64 u.n, .slice u.A u.kids.length u.cap, .int .i64 0] := hnew 10 63 (by kernel_rfl)
      have f64 : sl 64 = .string PS := hnew 11 64 (by kernel_rfl)
      have f65 : sl 65 = .agg #[.int .i64 m.kind, .string ⟨m.s.toArray⟩, .int .i64 m.n, .slice m.A m.kids.length m.cap, .int .i64 (m.pos : Int)] := hnew 12 65 (by kernel_rfl)
      have f67 : sl 67 = .string PS := hnew 14 67 (by kernel_rfl)
      have f68 : sl 68 = .bool true := hnew 15 68 (by kernel_rfl)
      have f69 : sl 69 = .bool true := hnew 16 69 (by kernel_rfl)
      have f70 : sl 70 = .bool true := hnew 17 70 (by kernel_rfl)
      have f71 : sl 71 = .bool true := hnew 18 71 (by kernel_rfl)
      have f72 : sl 72 = .bool true := hnew 19 72 (by kernel_rfl)
      change Exit.then _ _ .normal ⟨#[sl 0, sl 1, sl 2, sl 3, sl 4, sl 5, sl 6, sl 7, sl 8, sl 9, sl 10, sl 11, sl 12, sl 13, sl 14, sl 15, sl 16, sl 17, sl 18, sl 19, sl 20, sl 21, sl 22, sl 23, sl 24, sl 25, sl 26, sl 27, sl 28, sl 29, sl 30, sl 31, sl 32, sl 33, sl 34, sl 35, sl 36, sl 37, sl 38, sl 39, sl 40, sl 41, sl 42, sl 43, sl 44, sl 45, sl 46, sl 47, sl 48, sl 49, sl 50, sl 51, sl 52, sl 53, sl 54, sl 55, sl 56, sl 57, sl 58, sl 59, sl 60, sl 61, sl 62, sl 63, sl 64, sl 65, sl 66, sl 67, sl 68, sl 69, sl 70, sl 71, sl 72], _⟩ _
      simp only [f3, f6, f9, f10, f11, f2, f53, f54, f55, f56, f58, f60, f61, f62, f63, f64, f65, f67, f68, f69, f70, f71, f72]
      clear hold hnew
      go_wp2
      go_ret
      exact ⟨rfl, HALL.out.trans hEr⟩
    · have hre' : (RE != 0) = true := bne_iff_ne.2 hre
      have HX0 := Lib.hid (hx0 hre)
      clear hxf hxz hxt hxr hx0 hbk
      go_upto_region 8 with (first
        | ((with_reducible refine (HR.out _).mono ?_); rintro r w1 ⟨m, rfl, hmt, hml, hE1⟩; simp only []; have HMT := Lib.hid hmt; have HML := Lib.hid (hml.ev (Ev.alloc w1 (.cells #[.int .i64 m.kind, .string ⟨m.s.toArray⟩, .int .i64 m.n, .slice m.A m.kids.length m.cap, .int .i64 (m.pos : Int)] 24))); have HE1 := Lib.hid (hE1.trans (Ev.alloc w1 (.cells #[.int .i64 m.kind, .string ⟨m.s.toArray⟩, .int .i64 m.n, .slice m.A m.kids.length m.cap, .int .i64 (m.pos : Int)] 24))); have BMH := Lib.hid (Bx.new 24 #[.int .i64 m.kind, .string ⟨m.s.toArray⟩, .int .i64 m.n, .slice m.A m.kids.length m.cap, .int .i64 (m.pos : Int)] w1); clear hmt hml; obtain ⟨⟨c0, c1, c2, c3, c4⟩, _⟩ := BMH.out.five)
        | ((with_reducible refine (HO.out m _ _ HMT.out HML.out).mono ?_); rintro r w2 ⟨m2, rfl, hm2t, hm2l, hE2⟩; have HM2T := Lib.hid (hm2t.trans HMT.out); have HM2L := Lib.hid hm2l; have HE2 := Lib.hid hE2; clear hm2t hm2l)
        | ((with_reducible refine (HRD.out m2 _ _ HM2T.out HM2L.out).mono ?_); rintro r w3 ⟨x, rfl, hx1t, hx1l, hE3⟩; simp only []; have HXT1 := Lib.hid hx1t; have HXL := Lib.hid (hx1l.ev (Ev.alloc w3 (.cells #[.int .i64 x.kind, .string ⟨x.s.toArray⟩, .int .i64 x.n, .slice x.A x.kids.length x.cap] 30))); have HE3 := Lib.hid ((HE2.out.trans hE3).trans (Ev.alloc w3 (.cells #[.int .i64 x.kind, .string ⟨x.s.toArray⟩, .int .i64 x.n, .slice x.A x.kids.length x.cap] 30))); have BXH := Lib.hid (Bx.new 30 #[.int .i64 x.kind, .string ⟨x.s.toArray⟩, .int .i64 x.n, .slice x.A x.kids.length x.cap] w3); clear hx1t hx1l c0 c1 c2 c3 c4))
      have hb1 := BXH.out
      have hL1 := HXL.out.low (Nat.zero_le _)
      have hall := HE1.out.trans HE3.out
      generalize w3.alloc (.cells #[.int .i64 x.kind, .string ⟨x.s.toArray⟩, .int .i64 x.n, .slice x.A x.kids.length x.cap] 30) = u4 at *
      generalize w3.heap.size = gx at *
      have hKE : Calls Tryd.prog 8 #[.slice (some ⟨u4.heap.size, 0, none⟩) 1 1, .slice (some ⟨u4.heap.size + 1, 0, none⟩) 1 1] ((u4.alloc (.cells #[.int .i64 x.kind, .string ⟨x.s.toArray⟩, .int .i64 x.n, .slice x.A x.kids.length x.cap] 30)).alloc (.cells #[.int .i64 0, .string ⟨#[]⟩, .int .i64 0, .slice none 0 0] 30)) fun e w' => e = .returned (.bool true) ∧ Ev ((u4.alloc (.cells #[.int .i64 x.kind, .string ⟨x.s.toArray⟩, .int .i64 x.n, .slice x.A x.kids.length x.cap] 30)).alloc (.cells #[.int .i64 0, .string ⟨#[]⟩, .int .i64 0, .slice none 0 0] 30)) w' := by
        have hA := Sl.one (et := 30) encE u4 x _ rfl
        have hB0 := Sl.one (et := 30) encE (u4.alloc (.cells #[.int .i64 x.kind, .string ⟨x.s.toArray⟩, .int .i64 x.n, .slice x.A x.kids.length x.cap] 30)) mzero #[.int .i64 0, .string ⟨#[]⟩, .int .i64 0, .slice none 0 0] rfl
        rw [show (u4.alloc (.cells #[.int .i64 x.kind, .string ⟨x.s.toArray⟩, .int .i64 x.n, .slice x.A x.kids.length x.cap] 30)).heap.size = u4.heap.size + 1 by simp] at hB0
        exact keep_one3 x mzero _ _ _ (hA.ev (Ev.alloc _ _)) hB0 (hL1.ev ((Ev.alloc _ _).trans (Ev.alloc _ _))) Lx.leaf (by rw [HXT1.out, HX0.out]; rfl)
      have HKE := Lib.hid hKE
      have HALL := Lib.hid (hall.trans ((Ev.alloc u4 (.cells #[.int .i64 x.kind, .string ⟨x.s.toArray⟩, .int .i64 x.n, .slice x.A x.kids.length x.cap] 30)).trans (Ev.alloc _ (.cells #[.int .i64 0, .string ⟨#[]⟩, .int .i64 0, .slice none 0 0] 30))))
      obtain ⟨⟨c0, c1, c2, c3⟩, _⟩ := hb1.four
      clear hKE hb1 hL1 hall HE1 HE2 HE3 BMH BXH HML HM2L HM2T HXL
      go_wp2_with (first
        | ((with_reducible refine (HKE.out).mono ?_); rintro r w5 ⟨rfl, hE5⟩)
        | ((with_reducible refine (HKn.out _).mono ?_); rintro r w9 ⟨rfl, hE9⟩))
      go_ret
      exact ⟨rfl, (HALL.out.trans hE5).trans hE9⟩
  · have hw' : (Rw != 0) = true := bne_iff_ne.2 hw
    have HR := Lib.hid HR
    clear hsm htx
    go_wp2_with (first
      | ((with_reducible refine (HR.out _).mono ?_); rintro r w1 ⟨m, rfl, hmt, hml, hE1⟩; simp only []; clear hmt hml)
      | ((with_reducible refine (HKn.out _).mono ?_); rintro r w9 ⟨rfl, hE9⟩))
    go_ret
    exact ⟨rfl, (hE1.trans (Ev.alloc _ _)).trans hE9⟩
end Go.Proofs.YtnljagmpeifikaaDoor
