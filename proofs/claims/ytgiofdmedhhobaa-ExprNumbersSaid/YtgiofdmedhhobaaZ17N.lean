/-
  Texts that belong together: The document's own Read.
-/
import Derived.Deep.DeepCutAuto
import Derived.Test.YtgiofdmedhhobaaZ13N
namespace Go.Proofs.Ytgiofdmedhhobaa
open Go.RowKit
set_option linter.unusedVariables false

set_option maxRecDepth 100000 in
set_option maxHeartbeats 8000000 in
theorem rf_read (s0 : ByteArray) (w : World) (hs : s0.size ≤ 100000) :
    Calls Try.prog 7 #[.string s0] w (ReadOut (rfRead s0.data.toList) w) := by
  have hmix : Try.prog.follows .mixedOrders = true := by kernel_rfl
  have hll : s0.data.toList.length = s0.size := by rw [Array.length_toList]; rfl
  have HL := Lib.hid hll
  obtain ⟨R, hR⟩ : ∃ R, R = rfRead s0.data.toList := ⟨_, rfl⟩
  rw [← hR]
  unfold rfRead at hR
  rw [hll] at hR
  have HR := Lib.hid hR
  have HDG := Lib.hid rf_digit
  have HLT := Lib.hid rf_letter
  clear hR hll
  by_cases hbig : 600 < s0.size
  · have HX : Hid (R = (sxZero, 3, 0)) := Lib.hid (by rw [HR.out, if_pos hbig])
    have e0 : (600 : Int) < (s0.size : Int) := by omega
    have hB := Bx.new 34 #[.int .i64 0, .string ⟨#[]⟩, .int .i64 0, .slice none 0 0, .int .i64 0] w
    have hE := Ev.alloc w (.cells #[.int .i64 0, .string ⟨#[]⟩, .int .i64 0, .slice none 0 0, .int .i64 0] 34)
    obtain ⟨w0, hw0⟩ : ∃ w0, w.alloc (.cells #[.int .i64 0, .string ⟨#[]⟩, .int .i64 0, .slice none 0 0, .int .i64 0] 34) = w0 := ⟨_, rfl⟩
    rw [hw0] at hB hE
    obtain ⟨⟨c0, c1, c2, c3, c4⟩, f0, f1, f2, f3, f4⟩ := hB.five
    go_enter Try.func7, Try.ntmps7
    go_wp2
    (try simp only [Exit.inBlock, Exit.then])
    rw [set5_fold]
    refine bodyPost_ret (results_cell2' rfl _ _ _ _ _ rfl (hB.set5 _ _ _ _ _) Try.underlying34 rfl Try.sizeRTree) rfl ?_
    exact ⟨mzero, by rw [HX.out]; rfl, by rw [HX.out]; rfl, Lies.zero _ _ _, hE.box (set5_but _ _ _ _ _ _ _) (Nat.le_refl _)⟩
  have HSP : Hid (R = rfGo (s0.size + 1) [sxZero] s0.data.toList 0) := Lib.hid (by rw [HR.out, if_neg hbig])
  have e0 : ¬ ((600 : Int) < (s0.size : Int)) := by omega
  have HI := Lib.hid (RfSt.init w)
  clear HR
  go_enter Try.func7, Try.ntmps7
  go_wp2
  go_loopw [5, 6] (fun ov iv wr => ∃ (g q cap j f : Nat) (os : List M), ov = .slice (some ⟨g, 0, none⟩) (q + 1) cap ∧ iv = .int .i64 (j : Int) ∧ j ≤ s0.size ∧ s0.size - j < f ∧ RfSt w g q cap os j wr ∧ Hid (R = rfGo f (os.map M.t) (s0.data.toList.drop j) j)) (fun _ iv _ => s0.size - (intOf iv).toNat)
  case atStart => exact ⟨w.heap.size + 1, 0, 1, 0, s0.size + 1, [mzero], rfl, rfl, Nat.zero_le _, by omega, HI.out, HSP⟩
  case round =>
    obtain ⟨g, q, cap, j, f, os, rfl, rfl, hj, hf, ST, HG⟩ := hrel
    obtain ⟨f, rfl⟩ : ∃ f', f = f' + 1 := ⟨f - 1, by omega⟩
    obtain ⟨a1, a2, a3, a4, a5, a6⟩ := ST.at
    obtain ⟨⟨c0, c1, c2, c3, c4⟩, f0, f1, f2, f3, f4⟩ := ST.box.five
    have HA6 := Lib.hid a6
    have HA5 := Lib.hid a5
    have HLN := Lib.hid ST.len
    clear a5 a6
    by_cases hlt : j < s0.size
    · have hat := sx_at s0 j hlt
      obtain ⟨c, hc⟩ : ∃ c, s0[j] = c := ⟨_, rfl⟩
      have hidx2 : ∀ hh, s0[j]'hh = c := fun _ => hc
      rw [hc] at hat
      have hdr := sx_dropped hat
      have g0 : (0 : Int) ≤ (j : Int) := by omega
      have g1 : (j : Int) < (s0.size : Int) := by omega
      have HG1 := HG.out
      rw [hdr] at HG1
      unfold rfGo at HG1
      rw [List.length_map, HLN.out] at HG1
      clear hc HG
      by_cases hbl : sxBlank c = true
      · rw [if_pos hbl] at HG1
        have HG2 := Lib.hid HG1
        unfold sxBlank at hbl
        by_cases h32 : c.toNat = 32
        · have e32 : (c.toNat : Int) = 32 := by omega
          clear HG1 hdr
          go_wp2
          go_round
          case rel => exact ⟨g, q, cap, j + 1, f, os, rfl, by go_num, by omega, by omega, ST.wider (by omega), HG2⟩
          case measure => simp [intOf]; omega
        · have e10 : (c.toNat : Int) = 10 := by simp [h32] at hbl; omega
          clear HG1 hdr
          go_wp2
          go_round
          case rel => exact ⟨g, q, cap, j + 1, f, os, rfl, by go_num, by omega, by omega, ST.wider (by omega), HG2⟩
          case measure => simp [intOf]; omega
      · rw [if_neg hbl] at HG1
        have hbl2 : ¬ (c.toNat = 32) ∧ ¬ (c.toNat = 10) := by unfold sxBlank at hbl; simp at hbl; omega
        have e32 : ¬ ((c.toNat : Int) = 32) := by omega
        have e32' : ((c.toNat : Int) == 32) = false := beq_eq_false_iff_ne.2 e32
        have e10 : ¬ ((c.toNat : Int) = 10) := by omega
        have e10' : ((c.toNat : Int) == 10) = false := beq_eq_false_iff_ne.2 e10
        by_cases h41 : c.toNat = 41
        · have e41 : (c.toNat : Int) = 41 := by omega
          rw [if_pos (by simp [h41])] at HG1
          cases q with
          | zero =>
            simp at HG1
            have HX := Lib.hid HG1
            clear HG1 hdr hbl
            go_wp2
            (try simp only [Exit.inBlock, Exit.then])
            rw [set5_fold]
            refine bodyPost_ret (results_cell2' rfl _ _ _ _ _ rfl (ST.box.set5 _ _ _ _ _) Try.underlying34 rfl Try.sizeRTree) rfl ?_
            exact ⟨mzero, by rw [HX.out]; rfl, by rw [HX.out]; rfl, Lies.zero _ _ _, ST.ev.box (set5_but _ _ _ _ _ _ _) (Nat.le_refl _)⟩
          | succ r =>
            obtain ⟨os0, m, rfl⟩ := snoc_of os (by intro h; have := HLN.out; rw [h] at this; simp at this)
            obtain ⟨os1, e, rfl⟩ := snoc_of os0 (by intro h; have := HLN.out; rw [h] at this; simp at this)
            have hr : os1.length = r := by have := HLN.out; simp at this; omega
            have hpop : rfPop ((os1 ++ [e] ++ [m]).map M.t) = os1.map M.t ++ [e.t.add m.t] := by
              simp only [List.map_append, List.map_cons, List.map_nil]
              exact rfPop_snoc _ _ _
            rw [if_neg (by simp), hpop] at HG1
            have HG2 := Lib.hid HG1
            have hse : (os1 ++ [e] ++ [m])[r]? = some e := by rw [← hr]; simp
            have hsm : (os1 ++ [e] ++ [m])[r + 1]? = some m := by rw [← hr]; simp
            obtain ⟨_, _, _, hck, _⟩ := HA6.out r e hse
            obtain ⟨m0, m1, m2, m3, m4⟩ := HA6.out (r + 1) m hsm
            have hcm : ∀ j u, (mc m)[j]? = some u → wr.cell? ⟨g, (r + 1) * 5 + j, none⟩ = some u := fun j u hu => by
              rcases j with _ | _ | _ | _ | _ | j
              · injection hu with hu; subst hu; exact m0
              · injection hu with hu; subst hu; exact m1
              · injection hu with hu; subst hu; exact m2
              · injection hu with hu; subst hu; exact m3
              · injection hu with hu; subst hu; exact m4
              · simp [mc] at hu
            have hglt := a2
            have hfz := HA5.out (r * 5 + 3)
            have hMs := (ST.lies e (by simp)).ms
            have hLm := ST.lies m (by simp)
            have hek : e.kids.length ≤ 600 := by have := ST.kids e (by simp); omega
            have HR2 := Lib.hid hr
            unfold M.kv at hck
            generalize e.A = A1 at hck hMs
            obtain ⟨n1, hn1⟩ : ∃ n1, n1 = e.kids.length := ⟨_, rfl⟩
            rw [← hn1] at hck hMs
            generalize e.cap = cap1 at hck hMs
            have HNN := Lib.hid hn1
            clear hse hsm hpop HG1 hdr hbl m0 m1 m2 m3 m4 c0 c1 c2 c3 c4 f0 f1 f2 f3 f4 hn1 hr
            have hwr : IntKind.i64.wrap (r : Int) = (r : Int) := IntWalk.i64_in _ (by omega)
            go_upto_region 13 with fail
            refine wp_region_lastD hmix [3, 9, 10, 14, 15] 16 [fun v _ => v = .slice (some ⟨g, 0, none⟩) (r + 1 + 1) cap, fun v _ => v = .int .i64 ((r : Int) + 1), fun v _ => v = .int .i64 (r : Int), Empty0 34 wr.heap.size, fun v _ => v = .slice (some ⟨g, 0, none⟩) (r + 1 + 1) cap, fun v _ => v = .int .i64 ((r : Int) + 1), fun v _ => v = .int .i64 (r : Int), fun v _ => v = .pointer (some ⟨g, r * 5, none⟩), fun v _ => v = .pointer (some ⟨g, r * 5 + 3, none⟩), fun v _ => v = .slice A1 n1 cap1, fun v w => Ow 34 5 mc wr.heap.size w v e.kids, fun v _ => v = .slice (some ⟨g, 0, none⟩) (r + 1 + 1) cap, fun v _ => v = .int .i64 ((r : Int) + 1), fun v _ => v = .pointer (some ⟨g, (r + 1) * 5, none⟩), fun v _ => v = mv m, fun v w => ∃ A, v = .slice A 1 1 ∧ Sl 5 mc w A 1 1 [m], fun v w => Ow 34 5 mc wr.heap.size w v (e.kids ++ [m]), fun v _ => v = .pointer (some ⟨g, r * 5, none⟩), fun v _ => v = .pointer (some ⟨g, r * 5 + 3, none⟩)]
              164 rfl 19 _ rfl rfl (by kernel_rfl) (by kernel_rfl) ⟨mono_eq _, mono_eq _, mono_eq _, Empty0.mono, mono_eq _, mono_eq _, mono_eq _, mono_eq _, mono_eq _, mono_eq _, fun _ _ _ hE h => Ow.ev h hE, mono_eq _, mono_eq _, mono_eq _, mono_eq _, fun _ _ _ hE ⟨A, h1, h2⟩ => ⟨A, h1, h2.ev hE⟩, fun _ _ _ hE h => Ow.ev h hE, mono_eq _, mono_eq _, trivial⟩ ⟨.inr (any_eq _), .inr (any_eq _), .inr (any_eq _), .inl (by kernel_rfl), .inr (any_eq _), .inr (any_eq _), .inr (any_eq _), .inr (any_eq _), .inr (any_eq _), .inr (any_eq _), .inl (by kernel_rfl), .inr (any_eq _), .inr (any_eq _), .inr (any_eq _), .inr (any_eq _), .inl (by kernel_rfl), .inl (by kernel_rfl), .inr (any_eq _), .inr (any_eq _), trivial⟩ (opsb_start ?_) ?_
            · refine opsb_cons 0 ?_ (opsb_cons 1 ?_ (opsb_cons 2 ?_ (opsb_cons 3 ?_ (opsb_cons 4 ?_ (opsb_cons 5 ?_ (opsb_cons 6 ?_ (opsb_cons 7 ?_ (opsb_cons 8 ?_ (opsb_cons 9 ?_ (opsb_cons 10 ?_ (opsb_cons 11 ?_ (opsb_cons 12 ?_ (opsb_cons 13 ?_ (opsb_cons 14 ?_ (opsb_cons 15 ?_ (opsb_cons 16 ?_ (opsb_cons 17 ?_ (opsb_cons 18 ?_ (opsb_nil 19 _ (by omega))))))))))))))))))))
              · refine opd_value (by decide) fun a w c => ⟨(wanted_plain rfl), _, run_move _ rfl w, (c.was 5 (by kernel_rfl) rfl)⟩
              · refine opd_value (by decide) fun a w c => ⟨(wanted_plain rfl), _, run_move _ rfl w, (c.was 8 (by kernel_rfl) rfl)⟩
              · refine opd_value (by decide) fun a w c => ⟨(wanted_plain rfl), .int .i64 (r : Int), ?_, rfl⟩
                have e44 : a.eval (.tmp 44) = .int .i64 ((r : Int) + 1) := (c.new 1 44 (by kernel_rfl) (by kernel_rfl) (by kernel_rfl))
                have kc0 : a.eval (.const (.int .i64 1)) = .int .i64 1 := rfl
                generalize a.eval = ρ at e44 kc0 ⊢
                simp [execOp, e44, kc0, go_sem, hwr]
              · refine opd_makes fun a w c => ⟨(wanted_plain rfl), _, _, run_build_none rfl w, by unfold TurnsD; rw [if_neg (by decide)]; exact Ev.alloc _ _, Empty0.new c.ev.size⟩
              · refine opd_value (by decide) fun a w c => ⟨(wanted_plain rfl), _, run_move _ rfl w, (c.was 5 (by kernel_rfl) rfl)⟩
              · refine opd_value (by decide) fun a w c => ⟨(wanted_plain rfl), _, run_move _ rfl w, (c.was 8 (by kernel_rfl) rfl)⟩
              · refine opd_value (by decide) fun a w c => ⟨(wanted_plain rfl), .int .i64 (r : Int), ?_, rfl⟩
                have e48 : a.eval (.tmp 48) = .int .i64 ((r : Int) + 1) := (c.new 5 48 (by kernel_rfl) (by kernel_rfl) (by kernel_rfl))
                have kc0 : a.eval (.const (.int .i64 1)) = .int .i64 1 := rfl
                generalize a.eval = ρ at e48 kc0 ⊢
                simp [execOp, e48, kc0, go_sem, hwr]
              · refine opd_value (by decide) fun a w c => ⟨(wanted_plain rfl), _, run_index_tree (r) rfl ((c.new 4 47 (by kernel_rfl) (by kernel_rfl) (by kernel_rfl)) : a.eval (.tmp 47) = .slice (some ⟨g, 0, none⟩) (r + 1 + 1) cap) ((c.new 6 49 (by kernel_rfl) (by kernel_rfl) (by kernel_rfl))) (by omega) w, rfl⟩
              · refine opd_value (by decide) fun a w c => ⟨(wanted_plain rfl), _, run_field_tree rfl ((c.new 7 50 (by kernel_rfl) (by kernel_rfl) (by kernel_rfl)) : a.eval (.tmp 50) = .pointer (some ⟨g, r * 5, none⟩)) w, rfl⟩
              · refine opd_value (by decide) fun a w c => ⟨(wanted_plain rfl), _, run_load_kids rfl ((c.new 8 51 (by kernel_rfl) (by kernel_rfl) (by kernel_rfl)) : a.eval (.tmp 51) = .pointer (some ⟨g, r * 5 + 3, none⟩)) ((c.ev.cell (p := ⟨_, _, none⟩) hglt).trans hck) , rfl⟩
              · refine opd_makes fun a w c => ?_
                have h0 : Empty0 34 wr.heap.size (a.eval (.tmp 46)) w := (c.new 3 46 (by kernel_rfl) (by kernel_rfl) (by kernel_rfl))
                have e1 : a.eval (.tmp 52) = .slice A1 n1 cap1 := (c.new 9 52 (by kernel_rfl) (by kernel_rfl) (by kernel_rfl))
                obtain ⟨v', w', hr, h2, h3⟩ := run_append_ow0 (P := Try.prog) encM 32 (32 : TypeId) Try.underlying32 Try.infoRTree rfl h0 A1 n1 cap1 e.kids (hMs.ev c.ev) (by omega) (by omega) c.ev.size
                exact ⟨(wanted_plain rfl), v', w', run_append_at rfl e1 hr, by unfold TurnsD; rw [if_neg (by decide)]; exact h3, h2⟩
              · refine opd_value (by decide) fun a w c => ⟨(wanted_plain rfl), _, run_move _ rfl w, (c.was 5 (by kernel_rfl) rfl)⟩
              · refine opd_value (by decide) fun a w c => ⟨(wanted_plain rfl), _, run_move _ rfl w, (c.was 8 (by kernel_rfl) rfl)⟩
              · refine opd_value (by decide) fun a w c => ⟨(wanted_plain rfl), _, run_index_tree (r + 1) rfl ((c.new 11 54 (by kernel_rfl) (by kernel_rfl) (by kernel_rfl)) : a.eval (.tmp 54) = .slice (some ⟨g, 0, none⟩) (r + 1 + 1) cap) ((c.new 12 55 (by kernel_rfl) (by kernel_rfl) (by kernel_rfl))) (by omega) w, rfl⟩
              · refine opd_value (by decide) fun a w c => ⟨(wanted_plain rfl), _, run_load_tree m rfl ((c.new 13 56 (by kernel_rfl) (by kernel_rfl) (by kernel_rfl)) : a.eval (.tmp 56) = .pointer (some ⟨g, (r + 1) * 5, none⟩)) (fun j u hu => (c.ev.cell (p := ⟨_, _, none⟩) hglt).trans (hcm j u hu)), rfl⟩
              · refine opd_makes fun a w c => ⟨(wanted_plain rfl), _, _, run_build_one m rfl ((c.new 14 57 (by kernel_rfl) (by kernel_rfl) (by kernel_rfl)) : a.eval (.tmp 57) = mv m) w, by unfold TurnsD; rw [if_neg (by decide)]; exact Ev.alloc _ _, _, rfl, Sl.one encM w m _ rfl⟩
              · refine opd_makes fun a w c => ?_
                have h0 : Ow 34 5 mc wr.heap.size w (a.eval (.tmp 53)) e.kids := (c.new 10 53 (by kernel_rfl) (by kernel_rfl) (by kernel_rfl))
                obtain ⟨A2, e1, hS⟩ := ((c.new 15 58 (by kernel_rfl) (by kernel_rfl) (by kernel_rfl)) : ∃ A, a.eval (.tmp 58) = .slice A 1 1 ∧ Sl 5 mc w A 1 1 [m])
                obtain ⟨v', w', hr, h2, h3, _, _⟩ := run_append_ow (P := Try.prog) encM 32 (32 : TypeId) Try.underlying32 Try.infoRTree rfl h0 A2 1 1 [m] hS (by simp; omega) (by simp; omega) c.ev.size
                exact ⟨(wanted_plain rfl), v', w', run_append_at rfl e1 hr, by unfold TurnsD; rw [if_pos rfl]; exact ((But.of_ev c.ev).then h3).ev fun k hk => (h0.lt (mem_foot.1 hk)).1, h2⟩
              · refine opd_value (by decide) fun a w c => ⟨(wanted_plain rfl), _, run_index_tree (r) rfl ((c.new 0 43 (by kernel_rfl) (by kernel_rfl) (by kernel_rfl)) : a.eval (.tmp 43) = .slice (some ⟨g, 0, none⟩) (r + 1 + 1) cap) ((c.new 2 45 (by kernel_rfl) (by kernel_rfl) (by kernel_rfl))) (by omega) w, rfl⟩
              · refine opd_value (by decide) fun a w c => ⟨(wanted_plain rfl), _, run_field_tree rfl ((c.new 17 60 (by kernel_rfl) (by kernel_rfl) (by kernel_rfl)) : a.eval (.tmp 60) = .pointer (some ⟨g, r * 5, none⟩)) w, rfl⟩
            intro s w5 hE hold hnew
            have f0 : s 0 = .string s0 := hold 0 (by kernel_rfl)
            have f1 : s 1 = undef := hold 1 (by kernel_rfl)
            have f2 : s 2 = .pointer (some ⟨w.heap.size, 0, none⟩) := hold 2 (by kernel_rfl)
            have f5 : s 5 = .slice (some ⟨g, 0, none⟩) (r + 1 + 1) cap := hold 5 (by kernel_rfl)
            have f6 : s 6 = .int .i64 (j : Int) := hold 6 (by kernel_rfl)
            have f8 : s 8 = .int .i64 ((r : Int) + 1) := hold 8 (by kernel_rfl)
            have f13 : s 13 = .string s0 := hold 13 (by kernel_rfl)
            have f14 : s 14 = .int .i64 (s0.size : Int) := hold 14 (by kernel_rfl)
            have f15 : s 15 = .bool false := hold 15 (by kernel_rfl)
            have f16 : s 16 = undef := hold 16 (by kernel_rfl)
            have f17 : s 17 = .agg #[.int .i64 0, .string ⟨#[]⟩, .int .i64 0, .slice none 0 0, .int .i64 0] := hold 17 (by kernel_rfl)
            have f18 : s 18 = .slice (some ⟨w.heap.size + 1, 0, none⟩) 1 1 := hold 18 (by kernel_rfl)
            have f144 : s 144 = undef := hold 144 (by kernel_rfl)
            have f145 : s 145 = undef := hold 145 (by kernel_rfl)
            have f146 : s 146 = undef := hold 146 (by kernel_rfl)
            have f147 : s 147 = undef := hold 147 (by kernel_rfl)
            have f148 : s 148 = undef := hold 148 (by kernel_rfl)
            have f149 : s 149 = undef := hold 149 (by kernel_rfl)
            have f150 : s 150 = undef := hold 150 (by kernel_rfl)
            have f151 : s 151 = undef := hold 151 (by kernel_rfl)
            have f152 : s 152 = undef := hold 152 (by kernel_rfl)
            have f153 : s 153 = undef := hold 153 (by kernel_rfl)
            have f154 : s 154 = undef := hold 154 (by kernel_rfl)
            have f155 : s 155 = undef := hold 155 (by kernel_rfl)
            have f156 : s 156 = undef := hold 156 (by kernel_rfl)
            have f157 : s 157 = undef := hold 157 (by kernel_rfl)
            have f158 : s 158 = undef := hold 158 (by kernel_rfl)
            have f159 : s 159 = undef := hold 159 (by kernel_rfl)
            have f160 : s 160 = undef := hold 160 (by kernel_rfl)
            have f161 : s 161 = undef := hold 161 (by kernel_rfl)
            have f162 : s 162 = undef := hold 162 (by kernel_rfl)
            have f163 : s 163 = undef := hold 163 (by kernel_rfl)
            have f43 : s 43 = .slice (some ⟨g, 0, none⟩) (r + 1 + 1) cap := hnew 0 43 (by omega) (by kernel_rfl) (by kernel_rfl)
            have f44 : s 44 = .int .i64 ((r : Int) + 1) := hnew 1 44 (by omega) (by kernel_rfl) (by kernel_rfl)
            have f45 : s 45 = .int .i64 (r : Int) := hnew 2 45 (by omega) (by kernel_rfl) (by kernel_rfl)
            have f47 : s 47 = .slice (some ⟨g, 0, none⟩) (r + 1 + 1) cap := hnew 4 47 (by omega) (by kernel_rfl) (by kernel_rfl)
            have f48 : s 48 = .int .i64 ((r : Int) + 1) := hnew 5 48 (by omega) (by kernel_rfl) (by kernel_rfl)
            have f49 : s 49 = .int .i64 (r : Int) := hnew 6 49 (by omega) (by kernel_rfl) (by kernel_rfl)
            have f50 : s 50 = .pointer (some ⟨g, r * 5, none⟩) := hnew 7 50 (by omega) (by kernel_rfl) (by kernel_rfl)
            have f51 : s 51 = .pointer (some ⟨g, r * 5 + 3, none⟩) := hnew 8 51 (by omega) (by kernel_rfl) (by kernel_rfl)
            have f54 : s 54 = .slice (some ⟨g, 0, none⟩) (r + 1 + 1) cap := hnew 11 54 (by omega) (by kernel_rfl) (by kernel_rfl)
            have f55 : s 55 = .int .i64 ((r : Int) + 1) := hnew 12 55 (by omega) (by kernel_rfl) (by kernel_rfl)
            have f56 : s 56 = .pointer (some ⟨g, (r + 1) * 5, none⟩) := hnew 13 56 (by omega) (by kernel_rfl) (by kernel_rfl)
            have f60 : s 60 = .pointer (some ⟨g, r * 5, none⟩) := hnew 17 60 (by omega) (by kernel_rfl) (by kernel_rfl)
            have f61 : s 61 = .pointer (some ⟨g, r * 5 + 3, none⟩) := hnew 18 61 (by omega) (by kernel_rfl) (by kernel_rfl)
            have hOW : Ow 34 5 mc wr.heap.size w5 (s 59) (e.kids ++ [m]) := hnew 16 59 (by omega) (by kernel_rfl) (by kernel_rfl)
            obtain ⟨A2, cap2, f59, _, _⟩ := hOW.form encM
            obtain ⟨nn, hnn⟩ : ∃ nn, nn = (e.kids ++ [m]).length := ⟨_, rfl⟩
            rw [← hnn] at f59
            rw [f59] at hOW
            have HNN2 := Lib.hid hnn
            clear hnn
            have hcl := (hE.cell (p := ⟨g, r * 5 + 3, none⟩) hglt).trans hck
            have hfz := (hE.frozen (p := ⟨g, r * 5 + 3, none⟩) hglt).trans hfz
            refine ⟨wanted_plain rfl, wp_of_skip (w' := w5.setCell ⟨g, r * 5 + 3, none⟩ (.slice A2 nn cap2)) ?_ ?_⟩
            · change (execOp (Act.eval ⟨#[s 0, s 1, s 2, s 3, s 4, s 5, s 6, s 7, s 8, s 9, s 10, s 11, s 12, s 13, s 14, s 15, s 16, s 17, s 18, s 19, s 20, s 21, s 22, s 23, s 24, s 25, s 26, s 27, s 28, s 29, s 30, s 31, s 32, s 33, s 34, s 35, s 36, s 37, s 38, s 39, s 40, s 41, s 42, s 43, s 44, s 45, s 46, s 47, s 48, s 49, s 50, s 51, s 52, s 53, s 54, s 55, s 56, s 57, s 58, s 59, s 60, s 61, s 62, s 63, s 64, s 65, s 66, s 67, s 68, s 69, s 70, s 71, s 72, s 73, s 74, s 75, s 76, s 77, s 78, s 79, s 80, s 81, s 82, s 83, s 84, s 85, s 86, s 87, s 88, s 89, s 90, s 91, s 92, s 93, s 94, s 95, s 96, s 97, s 98, s 99, s 100, s 101, s 102, s 103, s 104, s 105, s 106, s 107, s 108, s 109, s 110, s 111, s 112, s 113, s 114, s 115, s 116, s 117, s 118, s 119, s 120, s 121, s 122, s 123, s 124, s 125, s 126, s 127, s 128, s 129, s 130, s 131, s 132, s 133, s 134, s 135, s 136, s 137, s 138, s 139, s 140, s 141, s 142, s 143, s 144, s 145, s 146, s 147, s 148, s 149, s 150, s 151, s 152, s 153, s 154, s 155, s 156, s 157, s 158, s 159, s 160, s 161, s 162, s 163], _⟩) ⟨none, .store 32 (.tmp 61) (.tmp 59), _, _, _, _⟩).run _ _ = _
              simp [execOp, f61, f59, go_sem, hcl, hfz]
            change Exit.then _ _ .normal ⟨#[s 0, s 1, s 2, s 3, s 4, s 5, s 6, s 7, s 8, s 9, s 10, s 11, s 12, s 13, s 14, s 15, s 16, s 17, s 18, s 19, s 20, s 21, s 22, s 23, s 24, s 25, s 26, s 27, s 28, s 29, s 30, s 31, s 32, s 33, s 34, s 35, s 36, s 37, s 38, s 39, s 40, s 41, s 42, s 43, s 44, s 45, s 46, s 47, s 48, s 49, s 50, s 51, s 52, s 53, s 54, s 55, s 56, s 57, s 58, s 59, s 60, s 61, s 62, s 63, s 64, s 65, s 66, s 67, s 68, s 69, s 70, s 71, s 72, s 73, s 74, s 75, s 76, s 77, s 78, s 79, s 80, s 81, s 82, s 83, s 84, s 85, s 86, s 87, s 88, s 89, s 90, s 91, s 92, s 93, s 94, s 95, s 96, s 97, s 98, s 99, s 100, s 101, s 102, s 103, s 104, s 105, s 106, s 107, s 108, s 109, s 110, s 111, s 112, s 113, s 114, s 115, s 116, s 117, s 118, s 119, s 120, s 121, s 122, s 123, s 124, s 125, s 126, s 127, s 128, s 129, s 130, s 131, s 132, s 133, s 134, s 135, s 136, s 137, s 138, s 139, s 140, s 141, s 142, s 143, s 144, s 145, s 146, s 147, s 148, s 149, s 150, s 151, s 152, s 153, s 154, s 155, s 156, s 157, s 158, s 159, s 160, s 161, s 162, s 163], _⟩ _
            simp only [f0, f1, f2, f5, f6, f8, f13, f14, f15, f16, f17, f18, f144, f145, f146, f147, f148, f149, f150, f151, f152, f153, f154, f155, f156, f157, f158, f159, f160, f161, f162, f163, f43, f44, f45, f47, f48, f49, f50, f51, f54, f55, f56, f60, f61, f59]

            generalize s 46 = u46_
            generalize s 52 = u52_
            generalize s 53 = u53_
            generalize s 57 = u57_
            generalize s 58 = u58_
            clear hold hnew
            generalize s 3 = u3
            generalize s 4 = u4
            generalize s 7 = u7
            generalize s 9 = u9
            generalize s 10 = u10
            generalize s 11 = u11
            generalize s 12 = u12
            generalize s 19 = u19
            generalize s 20 = u20
            generalize s 21 = u21
            generalize s 22 = u22
            generalize s 23 = u23
            generalize s 24 = u24
            generalize s 25 = u25
            generalize s 26 = u26
            generalize s 27 = u27
            generalize s 28 = u28
            generalize s 29 = u29
            generalize s 30 = u30
            generalize s 31 = u31
            generalize s 32 = u32
            generalize s 33 = u33
            generalize s 34 = u34
            generalize s 35 = u35
            generalize s 36 = u36
            generalize s 37 = u37
            generalize s 38 = u38
            generalize s 39 = u39
            generalize s 40 = u40
            generalize s 41 = u41
            generalize s 42 = u42
            generalize s 62 = u62
            generalize s 63 = u63
            generalize s 64 = u64
            generalize s 65 = u65
            generalize s 66 = u66
            generalize s 67 = u67
            generalize s 68 = u68
            generalize s 69 = u69
            generalize s 70 = u70
            generalize s 71 = u71
            generalize s 72 = u72
            generalize s 73 = u73
            generalize s 74 = u74
            generalize s 75 = u75
            generalize s 76 = u76
            generalize s 77 = u77
            generalize s 78 = u78
            generalize s 79 = u79
            generalize s 80 = u80
            generalize s 81 = u81
            generalize s 82 = u82
            generalize s 83 = u83
            generalize s 84 = u84
            generalize s 85 = u85
            generalize s 86 = u86
            generalize s 87 = u87
            generalize s 88 = u88
            generalize s 89 = u89
            generalize s 90 = u90
            generalize s 91 = u91
            generalize s 92 = u92
            generalize s 93 = u93
            generalize s 94 = u94
            generalize s 95 = u95
            generalize s 96 = u96
            generalize s 97 = u97
            generalize s 98 = u98
            generalize s 99 = u99
            generalize s 100 = u100
            generalize s 101 = u101
            generalize s 102 = u102
            generalize s 103 = u103
            generalize s 104 = u104
            generalize s 105 = u105
            generalize s 106 = u106
            generalize s 107 = u107
            generalize s 108 = u108
            generalize s 109 = u109
            generalize s 110 = u110
            generalize s 111 = u111
            generalize s 112 = u112
            generalize s 113 = u113
            generalize s 114 = u114
            generalize s 115 = u115
            generalize s 116 = u116
            generalize s 117 = u117
            generalize s 118 = u118
            generalize s 119 = u119
            generalize s 120 = u120
            generalize s 121 = u121
            generalize s 122 = u122
            generalize s 123 = u123
            generalize s 124 = u124
            generalize s 125 = u125
            generalize s 126 = u126
            generalize s 127 = u127
            generalize s 128 = u128
            generalize s 129 = u129
            generalize s 130 = u130
            generalize s 131 = u131
            generalize s 132 = u132
            generalize s 133 = u133
            generalize s 134 = u134
            generalize s 135 = u135
            generalize s 136 = u136
            generalize s 137 = u137
            generalize s 138 = u138
            generalize s 139 = u139
            generalize s 140 = u140
            generalize s 141 = u141
            generalize s 142 = u142
            generalize s 143 = u143
            have ST' : RfSt w g (r + 1) cap (os1 ++ e :: [m]) j wr := by rw [show os1 ++ e :: [m] = os1 ++ [e] ++ [m] by simp]; exact ST
            obtain ⟨e', he', ST2⟩ := ST'.graft hE hOW (hLm.ev hE) (Nat.lt_succ_self j)
            rw [HR2.out] at ST2
            have ST3 := RfSt.pop (os := os1 ++ [e']) (e := m) (q := r) (by rw [show os1 ++ [e'] ++ [m] = os1 ++ e' :: [m] by simp]; exact ST2)
            have i1 : (0 : Int) ≤ (r : Int) + 1 := by omega
            have i2 : (r : Int) + 1 ≤ (cap : Int) := by omega
            have HG3 : Hid (R = rfGo f ((os1 ++ [e']).map M.t) (s0.data.toList.drop (j + 1)) (j + 1)) := Lib.hid (by rw [HG2.out]; simp [he'])
            clear HG2 HR2 HNN hOW
            go_wp2
            go_round
            case rel => exact ⟨g, r, cap, j + 1, f, os1 ++ [e'], rfl, by go_num, by omega, by omega, ST3, HG3⟩
            case measure => simp [intOf]; omega
        · rw [if_neg (by simp [h41])] at HG1
          have e41 : ¬ ((c.toNat : Int) = 41) := by omega
          have e41' : ((c.toNat : Int) == 41) = false := beq_eq_false_iff_ne.2 e41
          go_upto_region 16 with fail
          go_cut [86] (fun v wx => v = .bool (!rfStarter c) ∧ wr = wx)
          case first =>
            have hmeet : ∀ b : Bool, rfStarter c = b → rfStarter c = b := fun _ h => h
            by_cases h40 : c.toNat = 40
            · have e40 : (c.toNat : Int) = 40 := by omega
              have hst : rfStarter c = true := by simp [rfStarter, h40]
              go_wp2_with fail
              go_meet
              exact ⟨by rw [hst]; first | rfl | simp only [n40, n34, n45]; rfl, rfl⟩
            have e40 : ¬ ((c.toNat : Int) = 40) := by omega
            have e40' : ((c.toNat : Int) == 40) = false := beq_eq_false_iff_ne.2 e40
            by_cases h34 : c.toNat = 34
            · have e34 : (c.toNat : Int) = 34 := by omega
              have hst : rfStarter c = true := by simp [rfStarter, h34]
              go_wp2_with fail
              go_meet
              exact ⟨by rw [hst]; first | rfl | simp only [n40, n34, n45]; rfl, rfl⟩
            have e34 : ¬ ((c.toNat : Int) = 34) := by omega
            have e34' : ((c.toNat : Int) == 34) = false := beq_eq_false_iff_ne.2 e34
            by_cases h45 : c.toNat = 45
            · have e45 : (c.toNat : Int) = 45 := by omega
              have hst : rfStarter c = true := by simp [rfStarter, h45]
              go_wp2_with fail
              go_meet
              exact ⟨by rw [hst]; first | rfl | simp only [n40, n34, n45]; rfl, rfl⟩
            have e45 : ¬ ((c.toNat : Int) = 45) := by omega
            have e45' : ((c.toNat : Int) == 45) = false := beq_eq_false_iff_ne.2 e45
            have HC := HLT.out c
            have HD := HDG.out c
            cases hl : sxLetter c with
            | true =>
              rw [hl] at HC
              have HC := Lib.hid HC
              have hst : rfStarter c = true := by simp [rfStarter, hl]
              go_wp2_with (first | ((with_reducible refine (HC.out _).mono ?_); rintro x w1 ⟨rfl, rfl⟩))
              go_meet
              exact ⟨by rw [hst]; first | rfl | simp only [n40, n34, n45]; rfl, rfl⟩
            | false =>
              rw [hl] at HC
              have HC := Lib.hid HC
              cases hd : sxDigit c with
              | true =>
                rw [hd] at HD
                have HD := Lib.hid HD
                have hst : rfStarter c = true := by simp [rfStarter, hd]
                go_wp2_with (first | ((with_reducible refine (HC.out _).mono ?_); rintro x w1 ⟨rfl, rfl⟩) | ((with_reducible refine (HD.out _).mono ?_); rintro x w1 ⟨rfl, rfl⟩))
                go_meet
                exact ⟨by rw [hst]; first | rfl | simp only [n40, n34, n45]; rfl, rfl⟩
              | false =>
                rw [hd] at HD
                have HD := Lib.hid HD
                have hst : rfStarter c = false := by simp [rfStarter, hl, hd, h40, h34, h45]
                have n40 : ((c.toNat : Int) != 40) = true := by simp; omega
                have n34 : ((c.toNat : Int) != 34) = true := by simp; omega
                have n45 : ((c.toNat : Int) != 45) = true := by simp; omega
                go_wp2_with (first | ((with_reducible refine (HC.out _).mono ?_); rintro x w1 ⟨rfl, rfl⟩) | ((with_reducible refine (HD.out _).mono ?_); rintro x w1 ⟨rfl, rfl⟩))
                go_meet
                exact ⟨by rw [hst]; first | rfl | simp only [n40, n34, n45]; rfl, rfl⟩
          case rest =>
            obtain ⟨hcv, rfl⟩ := hcut
            subst hcv
            cases hst : rfStarter c with
            | false =>
              rw [hst] at HG1
              simp at HG1
              have HX := Lib.hid HG1
              clear HG1 hdr hbl
              simp only [Bool.not_false]
              go_wp2
              (try simp only [Exit.inBlock, Exit.then])
              rw [set5_fold]
              refine bodyPost_ret (results_cell2' rfl _ _ _ _ _ rfl (ST.box.set5 _ _ _ _ _) Try.underlying34 rfl Try.sizeRTree) rfl ?_
              exact ⟨mzero, by rw [HX.out]; rfl, by rw [HX.out]; rfl, Lies.zero _ _ _, ST.ev.box (set5_but _ _ _ _ _ _ _) (Nat.le_refl _)⟩
            | true =>
              rw [hst] at HG1
              simp only [Bool.not_true, Bool.false_eq_true, if_false] at HG1
              simp only [Bool.not_true]
              go_upto_region 18 with fail
              go_cut [98] (fun v wx => v = .bool (q == 0 && sxDone (os.map M.t)) ∧ wr = wx)
              case first =>
                cases q with
                | succ r =>
                  go_wp2_with fail
                  go_meet
                  exact ⟨rfl, rfl⟩
                | zero =>
                  obtain ⟨e, rfl⟩ : ∃ e, os = [e] := List.length_eq_one_iff.1 HLN.out
                  obtain ⟨_, _, _, d3, _⟩ := HA6.out 0 e rfl
                  simp only [Nat.zero_mul, Nat.zero_add] at d3
                  have hsd : sxDone ([e].map M.t) = decide (0 < e.kids.length) := sxDone_map
                  unfold M.kv at d3
                  generalize e.kids.length = n1 at *
                  by_cases h0 : 0 < n1
                  · have i1 : (0 : Int) < (n1 : Int) := by omega
                    go_wp2_with fail
                    go_meet
                    exact ⟨by rw [hsd, decide_eq_true h0]; first | rfl | simp [i1], rfl⟩
                  · have i1 : ¬ ((0 : Int) < (n1 : Int)) := by omega
                    go_wp2_with fail
                    go_meet
                    exact ⟨by rw [hsd, decide_eq_false h0]; first | rfl | simp [i1], rfl⟩
              case rest =>
                obtain ⟨hcv, rfl⟩ := hcut
                subst hcv
                have hq1 : (q + 1 == 1) = (q == 0) := by cases q <;> simp
                rw [hq1] at HG1
                cases hdn : (q == 0 && sxDone (os.map M.t)) with
                | true =>
                  rw [hdn, if_pos rfl] at HG1
                  have HX := Lib.hid HG1
                  clear HG1 hdr hbl
                  go_wp2
                  (try simp only [Exit.inBlock, Exit.then])
                  rw [set5_fold]
                  refine bodyPost_ret (results_cell2' rfl _ _ _ _ _ rfl (ST.box.set5 _ _ _ _ _) Try.underlying34 rfl Try.sizeRTree) rfl ?_
                  exact ⟨mzero, by rw [HX.out]; rfl, by rw [HX.out]; rfl, Lies.zero _ _ _, ST.ev.box (set5_but _ _ _ _ _ _ _) (Nat.le_refl _)⟩
                | false =>
                  rw [hdn] at HG1
                  simp only [Bool.false_eq_true, if_false] at HG1
                  by_cases h40 : c.toNat = 40
                  · have e40 : (c.toNat : Int) = 40 := by omega
                    rw [if_pos (by simp [h40])] at HG1
                    by_cases hdp : 12 ≤ q
                    · rw [if_pos (by omega)] at HG1
                      have HX := Lib.hid HG1
                      have i1 : (12 : Int) ≤ (q : Int) := by omega
                      clear HG1 hdr hbl
                      go_wp2
                      (try simp only [Exit.inBlock, Exit.then])
                      rw [set5_fold]
                      refine bodyPost_ret (results_cell2' rfl _ _ _ _ _ rfl (ST.box.set5 _ _ _ _ _) Try.underlying34 rfl Try.sizeRTree) rfl ?_
                      exact ⟨mzero, by rw [HX.out]; rfl, by rw [HX.out]; rfl, Lies.zero _ _ _, ST.ev.box (set5_but _ _ _ _ _ _ _) (Nat.le_refl _)⟩
                    · rw [if_neg (by omega)] at HG1
                      have HG2 := Lib.hid HG1
                      have i1 : ¬ ((12 : Int) ≤ (q : Int)) := by omega
                      obtain ⟨_, capS, hvS, hMS, _⟩ := ST.own.form encM
                      injection hvS with hv1 hv2 hv3
                      subst hv1
                      subst hv3
                      rw [HLN.out] at hMS
                      have HMS := Lib.hid hMS
                      have hos : os.length ≤ 700 := by have := HLN.out; omega
                      clear HG1 hdr hbl hv2 hMS
                      go_wp2_with (first
                        | ((show wpList _ _ _ (⟨some 109, _, _, _, _, _⟩ :: _) _ _); refine wpList_append_ow0 (o := ⟨some 109, _, _, _, _, _⟩) rfl 32 (.tmp 107) (.tmp 108) rfl encM Try.underlying32 Try.infoRTree rfl rfl (Empty0.new (Nat.le_refl _)) (some ⟨g, 0, none⟩) (q + 1) cap os rfl (HMS.out.ev (Ev.alloc _ _)) (by omega) (by omega) (by simp) ?_; intro v1 w1 ho1 hE1; have E1 := Lib.hid ((Ev.alloc wr _).trans hE1); have O1 := Lib.hid ho1)
                        | ((show wpList _ _ _ (⟨some 113, _, _, _, _, _⟩ :: _) _ _); refine wpList_append_ow (o := ⟨some 113, _, _, _, _, _⟩) rfl 32 (.tmp 109) (.tmp 112) rfl encM Try.underlying32 Try.infoRTree rfl rfl (O1.out.ev (Ev.alloc _ _)) (some ⟨w1.heap.size, 0, none⟩) 1 1 [mtok 1 [] 0 j] rfl (Sl.one encM w1 (mtok 1 [] 0 j) _ rfl) (by simp; omega) (by simp; omega) (Nat.le_trans E1.out.size (Ev.alloc w1 _).size) ?_; intro v2 w2 hA2; have E2 : Ev wr w2 := ((But.of_ev (E1.out.trans (Ev.alloc w1 _))).then hA2.2.1).ev (fun k hk => (O1.out.lt (mem_foot.1 hk)).1); obtain ⟨g', cap', rfl, ST2⟩ := ST.push E2 hA2.1 (fun w K => Lies.tok _ _ _ _ _ _ _) rfl (Nat.lt_succ_self j)))
                      go_round
                      case rel => exact ⟨g', q + 1, cap', j + 1, f, os ++ [mtok 1 [] 0 j], rfl, by go_num, by omega, by omega, ST2, Lib.hid (by rw [HG2.out]; simp [mtok, M.t_eq, M.kind, M.s, M.n, M.kids, M.pos])⟩
                      case measure => simp [intOf]; omega
                  · rw [if_neg (by simp [h40])] at HG1
                    have e40 : ¬ ((c.toNat : Int) = 40) := by omega
                    have e40' : ((c.toNat : Int) == 40) = false := beq_eq_false_iff_ne.2 e40
                    have hk : c.toNat = 34 ∨ c.toNat = 45 ∨ sxLetter c = true ∨ sxDigit c = true := by
                      unfold rfStarter at hst
                      simp only [Bool.or_eq_true, beq_iff_eq] at hst
                      rcases hst with (((h | h) | h) | h) | h
                      · exact absurd h h40
                      · exact .inl h
                      · exact .inr (.inl h)
                      · exact .inr (.inr (.inl h))
                      · exact .inr (.inr (.inr h))
                    have hlf := fun w1 => rf_leaf s0 w1 hs j hlt c hat hk
                    rw [hdr] at hlf
                    have hok := (sxScan_ok c (s0.data.toList.drop (j + 1))).good
                    obtain ⟨X, hX⟩ : ∃ X, X = sxScan (c :: s0.data.toList.drop (j + 1)) := ⟨_, rfl⟩
                    rw [← hX] at hlf hok HG1
                    have hql : (c :: s0.data.toList.drop (j + 1)).length = s0.size - j := by rw [← hdr, List.length_drop, HL.out]
                    rw [hql] at hok
                    rw [← hdr, List.drop_drop] at HG1
                    clear hX hql
                    by_cases hw : X.why = 0
                    · rw [if_pos (by rw [hw]; rfl)] at HG1
                      have HG2 := Lib.hid HG1
                      obtain ⟨hz1, hz2, _⟩ := hok hw
                      have HLF : Hid (∀ w1 : World, Calls Try.prog 23 #[.string s0, .int .i64 (j : Int)] w1 fun x w' => ∃ wh : Int, x = .returned (.tuple #[.agg #[.int .i64 X.kind, .string ⟨X.s.toArray⟩, .int .i64 X.n, .slice none 0 0, .int .i64 (j : Int)], .int .i64 ((j + X.size : Nat) : Int), .int .i64 0, .int .i64 wh]) ∧ Ev w1 w') := Lib.hid fun w1 => (hlf w1).mono (by
                        rintro x w' ⟨k, n, p, en, wh, sb, rfl, hgd, _, hE⟩
                        obtain ⟨rfl, rfl, rfl, rfl, rfl⟩ := hgd hw
                        exact ⟨wh, by rw [hw], hE⟩)
                      have HZ1 := Lib.hid hz1
                      have HZ2 := Lib.hid hz2
                      have HLT2 := Lib.hid hlt
                      clear HG1 hdr hbl hlf hok hk hat hz1 hz2 hw c0 c1 c2 c3 c4 f0 f1 f2 f3 f4
                      go_upto_region 26 with (first
                        | ((with_reducible refine (HLF.out _).mono ?_); rintro x w1 ⟨wh, rfl, hE1⟩; have HE1 := Lib.hid hE1; obtain ⟨w6, hw6⟩ : ∃ w6, w6 = w1.alloc (.cells #[.int .i64 X.kind, .string ⟨X.s.toArray⟩, .int .i64 X.n, .slice none 0 0, .int .i64 (j : Int)] 34) := ⟨_, rfl⟩; have HW6 := Lib.hid hw6; clear hw6 hE1))
                      rw [← HW6.out]
                      have hE16 : Ev w1 w6 := HW6.out ▸ Ev.alloc w1 _
                      have hE6 := HE1.out.trans hE16
                      have hB6 : Bx 34 w1.heap.size #[.int .i64 X.kind, .string ⟨X.s.toArray⟩, .int .i64 X.n, .slice none 0 0, .int .i64 (j : Int)] w6 := HW6.out ▸ Bx.new 34 _ w1
                      clear HW6 HE1 hE16
                      generalize w1.heap.size = gl at *
                      have ST6 := ST.evs hE6
                      obtain ⟨_, hglt, _, _, hfz6, hc6⟩ := ST6.at
                      obtain ⟨os1, e, rfl⟩ := snoc_of os (by intro h; have := HLN.out; rw [h] at this; simp at this)
                      have hr : os1.length = q := by have := HLN.out; simp at this; omega
                      have hse : (os1 ++ [e])[q]? = some e := by rw [← hr]; simp
                      obtain ⟨_, _, _, hck, _⟩ := hc6 q e hse
                      have hfz := hfz6 (q * 5 + 3)
                      have hglt2 := hB6.lt
                      obtain ⟨m, hm⟩ : ∃ m, m = mtok X.kind X.s X.n j := ⟨_, rfl⟩
                      have hcm : ∀ j u, (mc m)[j]? = some u → w6.cell? ⟨gl, 0 + j, none⟩ = some u := fun j' u hu => by
                        rw [hB6.cell, Nat.zero_add]
                        rw [hm] at hu
                        simpa [mc, mtok, M.kind, M.s, M.n, M.kv, M.A, M.kids, M.cap, M.pos] using hu
                      have hMs := (ST6.lies e (by simp)).ms
                      have hLm : Lies (w.heap.size + 1) [g] w6 m := hm ▸ Lies.tok _ _ _ _ _ _ _
                      have hmt : m.t = X.tree j := by rw [hm]; simp [mtok, M.t, M.ts, Tk.tree]
                      have hek : e.kids.length ≤ 600 := by have := ST6.kids e (by simp); omega
                      have HR2 := Lib.hid hr
                      unfold M.kv at hck
                      generalize e.A = A1 at hck hMs
                      obtain ⟨n1, hn1⟩ : ∃ n1, n1 = e.kids.length := ⟨_, rfl⟩
                      rw [← hn1] at hck hMs
                      generalize e.cap = cap1 at hck hMs
                      have HNN := Lib.hid hn1
                      have HMT := Lib.hid hmt
                      have HG3 : Hid (R = rfGo f (os1.map M.t ++ [e.t.add m.t]) (s0.data.toList.drop (j + X.size)) (j + X.size)) := Lib.hid (by rw [HG2.out, hmt, List.map_append]; exact congrArg (fun y => rfGo f y _ _) (sxPut_snoc _ _ _))
                      clear hse hn1 hr hm hmt hc6 hfz6 hB6 HG2
                      go_upto_region 28 with fail
                      refine wp_region_lastD hmix [2, 7, 8, 9, 10] 11 [fun v _ => v = .slice (some ⟨g, 0, none⟩) (q + 1) cap, fun v _ => v = .int .i64 (q : Int), Empty0 34 w6.heap.size, fun v _ => v = .slice (some ⟨g, 0, none⟩) (q + 1) cap, fun v _ => v = .int .i64 (q : Int), fun v _ => v = .pointer (some ⟨g, q * 5, none⟩), fun v _ => v = .pointer (some ⟨g, q * 5 + 3, none⟩), fun v _ => v = .slice A1 n1 cap1, fun v w => Ow 34 5 mc w6.heap.size w v e.kids, fun v _ => v = mv m, fun v w => ∃ A, v = .slice A 1 1 ∧ Sl 5 mc w A 1 1 [m], fun v w => Ow 34 5 mc w6.heap.size w v (e.kids ++ [m]), fun v _ => v = .pointer (some ⟨g, q * 5, none⟩), fun v _ => v = .pointer (some ⟨g, q * 5 + 3, none⟩)]
                        164 rfl 14 _ rfl rfl (by kernel_rfl) (by kernel_rfl) ⟨mono_eq _, mono_eq _, Empty0.mono, mono_eq _, mono_eq _, mono_eq _, mono_eq _, mono_eq _, fun _ _ _ hE h => Ow.ev h hE, mono_eq _, fun _ _ _ hE ⟨A, h1, h2⟩ => ⟨A, h1, h2.ev hE⟩, fun _ _ _ hE h => Ow.ev h hE, mono_eq _, mono_eq _, trivial⟩ ⟨.inr (any_eq _), .inr (any_eq _), .inl (by kernel_rfl), .inr (any_eq _), .inr (any_eq _), .inr (any_eq _), .inr (any_eq _), .inr (any_eq _), .inl (by kernel_rfl), .inr (any_eq _), .inl (by kernel_rfl), .inl (by kernel_rfl), .inr (any_eq _), .inr (any_eq _), trivial⟩ (opsb_start ?_) ?_
                      · refine opsb_cons 0 ?_ (opsb_cons 1 ?_ (opsb_cons 2 ?_ (opsb_cons 3 ?_ (opsb_cons 4 ?_ (opsb_cons 5 ?_ (opsb_cons 6 ?_ (opsb_cons 7 ?_ (opsb_cons 8 ?_ (opsb_cons 9 ?_ (opsb_cons 10 ?_ (opsb_cons 11 ?_ (opsb_cons 12 ?_ (opsb_cons 13 ?_ (opsb_nil 14 _ (by omega)))))))))))))))
                        · refine opd_value (by decide) fun a w c => ⟨(wanted_plain rfl), _, run_move _ rfl w, (c.was 5 (by kernel_rfl) rfl)⟩
                        · refine opd_value (by decide) fun a w c => ⟨(wanted_plain rfl), _, run_move _ rfl w, (c.was 8 (by kernel_rfl) rfl)⟩
                        · refine opd_makes fun a w c => ⟨(wanted_plain rfl), _, _, run_build_none rfl w, by unfold TurnsD; rw [if_neg (by decide)]; exact Ev.alloc _ _, Empty0.new c.ev.size⟩
                        · refine opd_value (by decide) fun a w c => ⟨(wanted_plain rfl), _, run_move _ rfl w, (c.was 5 (by kernel_rfl) rfl)⟩
                        · refine opd_value (by decide) fun a w c => ⟨(wanted_plain rfl), _, run_move _ rfl w, (c.was 8 (by kernel_rfl) rfl)⟩
                        · refine opd_value (by decide) fun a w c => ⟨(wanted_plain rfl), _, run_index_tree (q) rfl ((c.new 3 132 (by kernel_rfl) (by kernel_rfl) (by kernel_rfl)) : a.eval (.tmp 132) = .slice (some ⟨g, 0, none⟩) (q + 1) cap) ((c.new 4 133 (by kernel_rfl) (by kernel_rfl) (by kernel_rfl))) (by omega) w, rfl⟩
                        · refine opd_value (by decide) fun a w c => ⟨(wanted_plain rfl), _, run_field_tree rfl ((c.new 5 134 (by kernel_rfl) (by kernel_rfl) (by kernel_rfl)) : a.eval (.tmp 134) = .pointer (some ⟨g, q * 5, none⟩)) w, rfl⟩
                        · refine opd_value (by decide) fun a w c => ⟨(wanted_plain rfl), _, run_load_kids rfl ((c.new 6 135 (by kernel_rfl) (by kernel_rfl) (by kernel_rfl)) : a.eval (.tmp 135) = .pointer (some ⟨g, q * 5 + 3, none⟩)) ((c.ev.cell (p := ⟨_, _, none⟩) hglt).trans hck) , rfl⟩
                        · refine opd_makes fun a w c => ?_
                          have h0 : Empty0 34 w6.heap.size (a.eval (.tmp 131)) w := (c.new 2 131 (by kernel_rfl) (by kernel_rfl) (by kernel_rfl))
                          have e1 : a.eval (.tmp 136) = .slice A1 n1 cap1 := (c.new 7 136 (by kernel_rfl) (by kernel_rfl) (by kernel_rfl))
                          obtain ⟨v', w', hr, h2, h3⟩ := run_append_ow0 (P := Try.prog) encM 32 (32 : TypeId) Try.underlying32 Try.infoRTree rfl h0 A1 n1 cap1 e.kids (hMs.ev c.ev) (by omega) (by omega) c.ev.size
                          exact ⟨(wanted_plain rfl), v', w', run_append_at rfl e1 hr, by unfold TurnsD; rw [if_neg (by decide)]; exact h3, h2⟩
                        · refine opd_value (by decide) fun a w c => ⟨(wanted_plain rfl), _, run_load_tree m rfl (c.was 9 (by kernel_rfl) rfl : a.eval (.tmp 9) = .pointer (some ⟨gl, 0, none⟩)) (fun j u hu => (c.ev.cell (p := ⟨_, _, none⟩) hglt2).trans (hcm j u hu)), rfl⟩
                        · refine opd_makes fun a w c => ⟨(wanted_plain rfl), _, _, run_build_one m rfl ((c.new 9 138 (by kernel_rfl) (by kernel_rfl) (by kernel_rfl)) : a.eval (.tmp 138) = mv m) w, by unfold TurnsD; rw [if_neg (by decide)]; exact Ev.alloc _ _, _, rfl, Sl.one encM w m _ rfl⟩
                        · refine opd_makes fun a w c => ?_
                          have h0 : Ow 34 5 mc w6.heap.size w (a.eval (.tmp 137)) e.kids := (c.new 8 137 (by kernel_rfl) (by kernel_rfl) (by kernel_rfl))
                          obtain ⟨A2, e1, hS⟩ := ((c.new 10 139 (by kernel_rfl) (by kernel_rfl) (by kernel_rfl)) : ∃ A, a.eval (.tmp 139) = .slice A 1 1 ∧ Sl 5 mc w A 1 1 [m])
                          obtain ⟨v', w', hr, h2, h3, _, _⟩ := run_append_ow (P := Try.prog) encM 32 (32 : TypeId) Try.underlying32 Try.infoRTree rfl h0 A2 1 1 [m] hS (by simp; omega) (by simp; omega) c.ev.size
                          exact ⟨(wanted_plain rfl), v', w', run_append_at rfl e1 hr, by unfold TurnsD; rw [if_pos rfl]; exact ((But.of_ev c.ev).then h3).ev fun k hk => (h0.lt (mem_foot.1 hk)).1, h2⟩
                        · refine opd_value (by decide) fun a w c => ⟨(wanted_plain rfl), _, run_index_tree (q) rfl ((c.new 0 129 (by kernel_rfl) (by kernel_rfl) (by kernel_rfl)) : a.eval (.tmp 129) = .slice (some ⟨g, 0, none⟩) (q + 1) cap) ((c.new 1 130 (by kernel_rfl) (by kernel_rfl) (by kernel_rfl))) (by omega) w, rfl⟩
                        · refine opd_value (by decide) fun a w c => ⟨(wanted_plain rfl), _, run_field_tree rfl ((c.new 12 141 (by kernel_rfl) (by kernel_rfl) (by kernel_rfl)) : a.eval (.tmp 141) = .pointer (some ⟨g, q * 5, none⟩)) w, rfl⟩
                      intro s w5 hE hold hnew
                      have f0 : s 0 = .string s0 := hold 0 (by kernel_rfl)
                      have f1 : s 1 = undef := hold 1 (by kernel_rfl)
                      have f2 : s 2 = .pointer (some ⟨w.heap.size, 0, none⟩) := hold 2 (by kernel_rfl)
                      have f5 : s 5 = .slice (some ⟨g, 0, none⟩) (q + 1) cap := hold 5 (by kernel_rfl)
                      have f6 : s 6 = .int .i64 (j : Int) := hold 6 (by kernel_rfl)
                      have f8 : s 8 = .int .i64 (q : Int) := hold 8 (by kernel_rfl)
                      have f9 : s 9 = .pointer (some ⟨gl, 0, none⟩) := hold 9 (by kernel_rfl)
                      have f10 : s 10 = .int .i64 ((j + X.size : Nat) : Int) := hold 10 (by kernel_rfl)
                      have f13 : s 13 = .string s0 := hold 13 (by kernel_rfl)
                      have f14 : s 14 = .int .i64 (s0.size : Int) := hold 14 (by kernel_rfl)
                      have f15 : s 15 = .bool false := hold 15 (by kernel_rfl)
                      have f16 : s 16 = undef := hold 16 (by kernel_rfl)
                      have f17 : s 17 = .agg #[.int .i64 0, .string ⟨#[]⟩, .int .i64 0, .slice none 0 0, .int .i64 0] := hold 17 (by kernel_rfl)
                      have f18 : s 18 = .slice (some ⟨w.heap.size + 1, 0, none⟩) 1 1 := hold 18 (by kernel_rfl)
                      have f144 : s 144 = undef := hold 144 (by kernel_rfl)
                      have f145 : s 145 = undef := hold 145 (by kernel_rfl)
                      have f146 : s 146 = undef := hold 146 (by kernel_rfl)
                      have f147 : s 147 = undef := hold 147 (by kernel_rfl)
                      have f148 : s 148 = undef := hold 148 (by kernel_rfl)
                      have f149 : s 149 = undef := hold 149 (by kernel_rfl)
                      have f150 : s 150 = undef := hold 150 (by kernel_rfl)
                      have f151 : s 151 = undef := hold 151 (by kernel_rfl)
                      have f152 : s 152 = undef := hold 152 (by kernel_rfl)
                      have f153 : s 153 = undef := hold 153 (by kernel_rfl)
                      have f154 : s 154 = undef := hold 154 (by kernel_rfl)
                      have f155 : s 155 = undef := hold 155 (by kernel_rfl)
                      have f156 : s 156 = undef := hold 156 (by kernel_rfl)
                      have f157 : s 157 = undef := hold 157 (by kernel_rfl)
                      have f158 : s 158 = undef := hold 158 (by kernel_rfl)
                      have f159 : s 159 = undef := hold 159 (by kernel_rfl)
                      have f160 : s 160 = undef := hold 160 (by kernel_rfl)
                      have f161 : s 161 = undef := hold 161 (by kernel_rfl)
                      have f162 : s 162 = undef := hold 162 (by kernel_rfl)
                      have f163 : s 163 = undef := hold 163 (by kernel_rfl)
                      have f129 : s 129 = .slice (some ⟨g, 0, none⟩) (q + 1) cap := hnew 0 129 (by omega) (by kernel_rfl) (by kernel_rfl)
                      have f130 : s 130 = .int .i64 (q : Int) := hnew 1 130 (by omega) (by kernel_rfl) (by kernel_rfl)
                      have f132 : s 132 = .slice (some ⟨g, 0, none⟩) (q + 1) cap := hnew 3 132 (by omega) (by kernel_rfl) (by kernel_rfl)
                      have f133 : s 133 = .int .i64 (q : Int) := hnew 4 133 (by omega) (by kernel_rfl) (by kernel_rfl)
                      have f134 : s 134 = .pointer (some ⟨g, q * 5, none⟩) := hnew 5 134 (by omega) (by kernel_rfl) (by kernel_rfl)
                      have f135 : s 135 = .pointer (some ⟨g, q * 5 + 3, none⟩) := hnew 6 135 (by omega) (by kernel_rfl) (by kernel_rfl)
                      have f141 : s 141 = .pointer (some ⟨g, q * 5, none⟩) := hnew 12 141 (by omega) (by kernel_rfl) (by kernel_rfl)
                      have f142 : s 142 = .pointer (some ⟨g, q * 5 + 3, none⟩) := hnew 13 142 (by omega) (by kernel_rfl) (by kernel_rfl)
                      have hOW : Ow 34 5 mc w6.heap.size w5 (s 140) (e.kids ++ [m]) := hnew 11 140 (by omega) (by kernel_rfl) (by kernel_rfl)
                      obtain ⟨A2, cap2, f140, _, _⟩ := hOW.form encM
                      obtain ⟨nn, hnn⟩ : ∃ nn, nn = (e.kids ++ [m]).length := ⟨_, rfl⟩
                      rw [← hnn] at f140
                      rw [f140] at hOW
                      have HNN2 := Lib.hid hnn
                      clear hnn
                      have hcl := (hE.cell (p := ⟨g, q * 5 + 3, none⟩) hglt).trans hck
                      have hfz := (hE.frozen (p := ⟨g, q * 5 + 3, none⟩) hglt).trans hfz
                      refine ⟨wanted_plain rfl, wp_of_skip (w' := w5.setCell ⟨g, q * 5 + 3, none⟩ (.slice A2 nn cap2)) ?_ ?_⟩
                      · change (execOp (Act.eval ⟨#[s 0, s 1, s 2, s 3, s 4, s 5, s 6, s 7, s 8, s 9, s 10, s 11, s 12, s 13, s 14, s 15, s 16, s 17, s 18, s 19, s 20, s 21, s 22, s 23, s 24, s 25, s 26, s 27, s 28, s 29, s 30, s 31, s 32, s 33, s 34, s 35, s 36, s 37, s 38, s 39, s 40, s 41, s 42, s 43, s 44, s 45, s 46, s 47, s 48, s 49, s 50, s 51, s 52, s 53, s 54, s 55, s 56, s 57, s 58, s 59, s 60, s 61, s 62, s 63, s 64, s 65, s 66, s 67, s 68, s 69, s 70, s 71, s 72, s 73, s 74, s 75, s 76, s 77, s 78, s 79, s 80, s 81, s 82, s 83, s 84, s 85, s 86, s 87, s 88, s 89, s 90, s 91, s 92, s 93, s 94, s 95, s 96, s 97, s 98, s 99, s 100, s 101, s 102, s 103, s 104, s 105, s 106, s 107, s 108, s 109, s 110, s 111, s 112, s 113, s 114, s 115, s 116, s 117, s 118, s 119, s 120, s 121, s 122, s 123, s 124, s 125, s 126, s 127, s 128, s 129, s 130, s 131, s 132, s 133, s 134, s 135, s 136, s 137, s 138, s 139, s 140, s 141, s 142, s 143, s 144, s 145, s 146, s 147, s 148, s 149, s 150, s 151, s 152, s 153, s 154, s 155, s 156, s 157, s 158, s 159, s 160, s 161, s 162, s 163], _⟩) ⟨none, .store 32 (.tmp 142) (.tmp 140), _, _, _, _⟩).run _ _ = _
                        simp [execOp, f142, f140, go_sem, hcl, hfz]
                      change Exit.then _ _ .normal ⟨#[s 0, s 1, s 2, s 3, s 4, s 5, s 6, s 7, s 8, s 9, s 10, s 11, s 12, s 13, s 14, s 15, s 16, s 17, s 18, s 19, s 20, s 21, s 22, s 23, s 24, s 25, s 26, s 27, s 28, s 29, s 30, s 31, s 32, s 33, s 34, s 35, s 36, s 37, s 38, s 39, s 40, s 41, s 42, s 43, s 44, s 45, s 46, s 47, s 48, s 49, s 50, s 51, s 52, s 53, s 54, s 55, s 56, s 57, s 58, s 59, s 60, s 61, s 62, s 63, s 64, s 65, s 66, s 67, s 68, s 69, s 70, s 71, s 72, s 73, s 74, s 75, s 76, s 77, s 78, s 79, s 80, s 81, s 82, s 83, s 84, s 85, s 86, s 87, s 88, s 89, s 90, s 91, s 92, s 93, s 94, s 95, s 96, s 97, s 98, s 99, s 100, s 101, s 102, s 103, s 104, s 105, s 106, s 107, s 108, s 109, s 110, s 111, s 112, s 113, s 114, s 115, s 116, s 117, s 118, s 119, s 120, s 121, s 122, s 123, s 124, s 125, s 126, s 127, s 128, s 129, s 130, s 131, s 132, s 133, s 134, s 135, s 136, s 137, s 138, s 139, s 140, s 141, s 142, s 143, s 144, s 145, s 146, s 147, s 148, s 149, s 150, s 151, s 152, s 153, s 154, s 155, s 156, s 157, s 158, s 159, s 160, s 161, s 162, s 163], _⟩ _
                      simp only [f0, f1, f2, f5, f6, f8, f9, f10, f13, f14, f15, f16, f17, f18, f144, f145, f146, f147, f148, f149, f150, f151, f152, f153, f154, f155, f156, f157, f158, f159, f160, f161, f162, f163, f129, f130, f132, f133, f134, f135, f141, f142, f140]

                      generalize s 131 = u131_
                      generalize s 136 = u136_
                      generalize s 137 = u137_
                      generalize s 138 = u138_
                      generalize s 139 = u139_
                      clear hold hnew
                      generalize s 3 = u3
                      generalize s 4 = u4
                      generalize s 7 = u7
                      generalize s 11 = u11
                      generalize s 12 = u12
                      generalize s 19 = u19
                      generalize s 20 = u20
                      generalize s 21 = u21
                      generalize s 22 = u22
                      generalize s 23 = u23
                      generalize s 24 = u24
                      generalize s 25 = u25
                      generalize s 26 = u26
                      generalize s 27 = u27
                      generalize s 28 = u28
                      generalize s 29 = u29
                      generalize s 30 = u30
                      generalize s 31 = u31
                      generalize s 32 = u32
                      generalize s 33 = u33
                      generalize s 34 = u34
                      generalize s 35 = u35
                      generalize s 36 = u36
                      generalize s 37 = u37
                      generalize s 38 = u38
                      generalize s 39 = u39
                      generalize s 40 = u40
                      generalize s 41 = u41
                      generalize s 42 = u42
                      generalize s 43 = u43
                      generalize s 44 = u44
                      generalize s 45 = u45
                      generalize s 46 = u46
                      generalize s 47 = u47
                      generalize s 48 = u48
                      generalize s 49 = u49
                      generalize s 50 = u50
                      generalize s 51 = u51
                      generalize s 52 = u52
                      generalize s 53 = u53
                      generalize s 54 = u54
                      generalize s 55 = u55
                      generalize s 56 = u56
                      generalize s 57 = u57
                      generalize s 58 = u58
                      generalize s 59 = u59
                      generalize s 60 = u60
                      generalize s 61 = u61
                      generalize s 62 = u62
                      generalize s 63 = u63
                      generalize s 64 = u64
                      generalize s 65 = u65
                      generalize s 66 = u66
                      generalize s 67 = u67
                      generalize s 68 = u68
                      generalize s 69 = u69
                      generalize s 70 = u70
                      generalize s 71 = u71
                      generalize s 72 = u72
                      generalize s 73 = u73
                      generalize s 74 = u74
                      generalize s 75 = u75
                      generalize s 76 = u76
                      generalize s 77 = u77
                      generalize s 78 = u78
                      generalize s 79 = u79
                      generalize s 80 = u80
                      generalize s 81 = u81
                      generalize s 82 = u82
                      generalize s 83 = u83
                      generalize s 84 = u84
                      generalize s 85 = u85
                      generalize s 86 = u86
                      generalize s 87 = u87
                      generalize s 88 = u88
                      generalize s 89 = u89
                      generalize s 90 = u90
                      generalize s 91 = u91
                      generalize s 92 = u92
                      generalize s 93 = u93
                      generalize s 94 = u94
                      generalize s 95 = u95
                      generalize s 96 = u96
                      generalize s 97 = u97
                      generalize s 98 = u98
                      generalize s 99 = u99
                      generalize s 100 = u100
                      generalize s 101 = u101
                      generalize s 102 = u102
                      generalize s 103 = u103
                      generalize s 104 = u104
                      generalize s 105 = u105
                      generalize s 106 = u106
                      generalize s 107 = u107
                      generalize s 108 = u108
                      generalize s 109 = u109
                      generalize s 110 = u110
                      generalize s 111 = u111
                      generalize s 112 = u112
                      generalize s 113 = u113
                      generalize s 114 = u114
                      generalize s 115 = u115
                      generalize s 116 = u116
                      generalize s 117 = u117
                      generalize s 118 = u118
                      generalize s 119 = u119
                      generalize s 120 = u120
                      generalize s 121 = u121
                      generalize s 122 = u122
                      generalize s 123 = u123
                      generalize s 124 = u124
                      generalize s 125 = u125
                      generalize s 126 = u126
                      generalize s 127 = u127
                      generalize s 128 = u128
                      generalize s 143 = u143
                      have ST' : RfSt w g q cap (os1 ++ e :: []) j w6 := ST6
                      have hjz : j < j + X.size := by have := HZ1.out; omega
                      obtain ⟨e', he', ST2⟩ := ST'.graft hE hOW (hLm.ev hE) hjz
                      rw [HR2.out] at ST2
                      have HG4 : Hid (R = rfGo f ((os1 ++ [e']).map M.t) (s0.data.toList.drop (j + X.size)) (j + X.size)) := Lib.hid (by rw [HG3.out]; simp [he'])
                      have hz1 := HZ1.out
                      have hz2 := HZ2.out
                      clear HG3 HR2 HNN hOW
                      go_wp2
                      go_round
                      case rel => exact ⟨g, q, cap, j + X.size, f, os1 ++ [e'], rfl, by go_num, by omega, by omega, ST2, HG4⟩
                      case measure => simp [intOf]; omega
                    · rw [if_neg (by simp; exact hw)] at HG1
                      have HX := Lib.hid HG1
                      have HLF : Hid (∀ w1 : World, Calls Try.prog 23 #[.string s0, .int .i64 (j : Int)] w1 fun x w' => ∃ (k n p en : Int) (sb : ByteArray), x = .returned (.tuple #[.agg #[.int .i64 k, .string sb, .int .i64 n, .slice none 0 0, .int .i64 p], .int .i64 en, .int .i64 X.why, .int .i64 ((j + X.fault : Nat) : Int)]) ∧ Ev w1 w') := Lib.hid fun w1 => (hlf w1).mono (by
                        rintro x w' ⟨k, n, p, en, wh, sb, rfl, _, hbd, hE⟩
                        obtain rfl := hbd hw
                        exact ⟨k, n, p, en, sb, rfl, hE⟩)
                      have hwb : (X.why != 0) = true := by simp [hw]
                      clear HG1 hdr hbl hlf hok hk hat c0 c1 c2 c3 c4 f0 f1 f2 f3 f4
                      go_upto_region 26 with (first
                        | ((with_reducible refine (HLF.out _).mono ?_); rintro x w1 ⟨k, n, p, en, sb, rfl, hE1⟩; have HE1 := Lib.hid hE1; obtain ⟨w6, hw6⟩ : ∃ w6, w6 = w1.alloc (.cells #[.int .i64 k, .string sb, .int .i64 n, .slice none 0 0, .int .i64 p] 34) := ⟨_, rfl⟩; have HW6 := Lib.hid hw6; clear hw6 hE1))
                      rw [← HW6.out]
                      have hE16 : Ev w1 w6 := HW6.out ▸ Ev.alloc w1 _
                      have ST6 := ST.evs (HE1.out.trans hE16)
                      obtain ⟨⟨c0, c1, c2, c3, c4⟩, f0, f1, f2, f3, f4⟩ := ST6.box.five
                      clear HW6 HE1 hE16
                      go_wp2
                      (try simp only [Exit.inBlock, Exit.then])
                      rw [set5_fold]
                      refine bodyPost_ret (results_cell2' rfl _ _ _ _ _ rfl (ST6.box.set5 _ _ _ _ _) Try.underlying34 rfl Try.sizeRTree) rfl ?_
                      exact ⟨mzero, by rw [HX.out]; rfl, by rw [HX.out]; rfl, Lies.zero _ _ _, ST6.ev.box (set5_but _ _ _ _ _ _ _) (Nat.le_refl _)⟩
    · have hjs : j = s0.size := by omega
      have HG1 := HG.out
      rw [List.drop_of_length_le (by rw [HL.out]; omega)] at HG1
      unfold rfGo rfWhole at HG1
      rw [List.length_map, HLN.out] at HG1
      have g1 : ¬ ((j : Int) < (s0.size : Int)) := by omega
      clear HG
      cases q with
      | succ r =>
        rw [if_pos (by omega)] at HG1
        have HX : Hid (R = (sxZero, 10, s0.size)) := Lib.hid (by rw [HG1, hjs])
        clear HG1 hjs
        have i1 : (1 : Int) < (r : Int) + 1 + 1 := by omega
        go_wp2
        (try simp only [Exit.inBlock, Exit.then])
        rw [set5_fold]
        refine bodyPost_ret (results_cell2' rfl _ _ _ _ _ rfl (ST.box.set5 _ _ _ _ _) Try.underlying34 rfl Try.sizeRTree) rfl ?_
        exact ⟨mzero, by rw [HX.out]; rfl, by rw [HX.out]; rfl, Lies.zero _ _ _, ST.ev.box (set5_but _ _ _ _ _ _ _) (Nat.le_refl _)⟩
      | zero =>
        rw [if_neg (by omega)] at HG1
        obtain ⟨e, rfl⟩ : ∃ e, os = [e] := List.length_eq_one_iff.1 HLN.out
        obtain ⟨_, _, _, d3, _⟩ := HA6.out 0 e rfl
        simp only [Nat.zero_mul, Nat.zero_add] at d3
        have hms := (ST.lies e (by simp)).ms
        have hkd := (ST.lies e (by simp)).kid
        simp only [List.map_cons, List.map_nil, sxWhole] at HG1
        rw [M.t_kids] at HG1
        unfold M.kv at d3
        obtain ⟨n1, hn1⟩ : ∃ n1, n1 = e.kids.length := ⟨_, rfl⟩
        rw [← hn1] at d3 hms
        cases hkk : e.kids with
        | nil =>
          rw [hkk] at HG1 hn1
          simp at hn1
          subst hn1
          have HX : Hid (R = (sxZero, 10, s0.size)) := Lib.hid (by rw [HG1, ← hjs]; rfl)
          clear HG1 hjs
          go_wp2
          (try simp only [Exit.inBlock, Exit.then])
          rw [set5_fold]
          refine bodyPost_ret (results_cell2' rfl _ _ _ _ _ rfl (ST.box.set5 _ _ _ _ _) Try.underlying34 rfl Try.sizeRTree) rfl ?_
          exact ⟨mzero, by rw [HX.out]; rfl, by rw [HX.out]; rfl, Lies.zero _ _ _, ST.ev.box (set5_but _ _ _ _ _ _ _) (Nat.le_refl _)⟩
        | cons m l =>
          rw [hkk] at HG1 hn1 hms hkd
          simp at hn1
          have hm0 : (m :: l)[0]? = some m := rfl
          obtain ⟨b, off, hA, hbl, k0, k1, k2, k3, k4⟩ := hms.cell hm0
          simp only [Nat.zero_mul, Nat.add_zero] at k0 k1 k2 k3 k4
          rw [hA] at d3
          have HX : Hid (R = (m.t, 0, 0)) := Lib.hid (by rw [HG1]; rfl)
          have hn1' : ¬ ((n1 : Int) = 0) := by omega
          have hn1b : ((n1 : Int) == 0) = false := beq_eq_false_iff_ne.2 hn1'
          have hn1c : (0 : Int) < (n1 : Int) := by omega
          have hLm := hkd m (by simp)
          unfold M.kv at k3
          clear HG1 hjs hn1 hkd
          go_wp2
          (try simp only [Exit.inBlock, Exit.then])
          rw [set5_fold]
          refine bodyPost_ret (results_cell2' rfl _ _ _ _ _ rfl (ST.box.set5 _ _ _ _ _) Try.underlying34 rfl Try.sizeRTree) rfl ?_
          exact ⟨m, by rw [HX.out]; rfl, by rw [HX.out], ((hLm.less (K' := [w.heap.size]) (fun x hx => by simp at hx; exact .inr (.inl (by omega)))).move (set5_but _ _ _ _ _ _ _) (K' := []) (fun x hx => by cases hx)).low (Nat.le_succ _), ST.ev.box (set5_but _ _ _ _ _ _ _) (Nat.le_refl _)⟩
end Go.Proofs.Ytgiofdmedhhobaa
