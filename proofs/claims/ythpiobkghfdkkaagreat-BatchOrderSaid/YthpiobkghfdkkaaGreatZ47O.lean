/-
  Texts that belong together: The document's Make (chapter 6): its walk.
-/
import Derived.Test.YthpiobkghfdkkaaGreatZ46O
import Derived.Test.YthpiobkghfdkkaaGreatZ11O
import Derived.Test.YthpiobkghfdkkaaGreatZ2O
namespace Go.Proofs.YthpiobkghfdkkaaGreat
open Go.RowKit
set_option linter.unusedVariables false

set_option maxRecDepth 100000 in
set_option maxHeartbeats 8000000 in
theorem rf6_make {A : Option Addr} {n cap : Nat} {l : List I} (w : World) (h : SetIn l w A n cap) (ha : ∀ x ∈ l, AddI x) (hn : n ≤ 500) :
    Calls Tryz.prog 27 #[.slice A n cap] w fun e w' => ∃ S A' c', e = .returned (.tuple #[.slice A' S.length c', .int .i64 0]) ∧ SetNew w.heap.size S w' A' S.length c' ∧ PSet (n * 1000) S ∧ (∀ f, netS f S = netS f l) ∧ Ev w w' := by
  have hmix : Tryz.prog.follows .mixedOrders = true := by kernel_rfl
  obtain ⟨Z, hz, hzl⟩ := h
  have hcl := hz.le
  have hcm := hz.max
  have HL := Lib.hid hz.len
  have H := Lib.hid hz
  have HZI := Lib.hid hzl
  have HA : Hid (∀ x ∈ Z, AddI x.2) := Lib.hid (fun x hx => ha x.2 (by rw [← hzl]; exact List.mem_map.2 ⟨x, hx, rfl⟩))
  have hst := store_complex
  clear hz hzl ha
  go_enter Tryz.func27, Tryz.ntmps27
  go_wp2
  go_loopw [4] (fun iv wr => ∃ i : Nat, iv = .int .i64 (i : Int) ∧ i ≤ n ∧ Hid (Ev w wr)) (fun iv _ => n - (intOf iv).toNat)
  case atStart => exact ⟨0, rfl, Nat.zero_le _, Lib.hid (Ev.refl _)⟩
  case round =>
    obtain ⟨i, rfl, hi, HE⟩ := hrel
    by_cases hlt : i < n
    · obtain ⟨b, off, x, rfl, hb, _, hx, x0, x1, hv⟩ := (H.out.ev HE.out).at hlt
      obtain ⟨hxr, hx1, hx2, hx3⟩ := HA.out x (List.mem_of_getElem? hx)
      obtain ⟨pn, hpn⟩ : ∃ pn : Nat, x.2.2.1 = (pn : Int) := ⟨x.2.2.1.toNat, by omega⟩
      unfold jrow at x0
      unfold jtal at x1
      rw [hpn, hx3] at x1
      have HPT : Hid (∀ w1, Calls Tryz.prog 43 #[.complex .f64 (fl (pn : Int)) (fl 0)] w1 fun e w' => e = .returned (.tuple #[.int .i64 (pn : Int), .int .i64 0, .bool true]) ∧ w1 = w') := Lib.hid (fun w1 => rf3_parts pn 0 (by omega) (by omega) w1)
      have HRT := Lib.hid (fun w1 (hE : Ev wr w1) => ref5_right w1 (hv.ev hE))
      rw [hxr] at HRT
      have i1 : (0 : Int) ≤ (i : Int) := by omega
      have i2 : (i : Int) < (n : Int) := by omega
      clear hx hxr hx1 hx2 hx3 hpn hv
      go_wp2_with (first
        | ((with_reducible refine (HPT.out _).mono ?_); rintro e w1 ⟨rfl, rfl⟩)
        | ((with_reducible refine (HRT.out _ (Ev.refl _)).mono ?_); rintro e w2 ⟨rfl, hE2⟩))
      go_roundw
      case rel => exact ⟨i + 1, by go_num, by omega, Lib.hid (HE.out.trans hE2)⟩
      case measure => simp [intOf]; omega
    · obtain rfl : n = i := by omega
      go_wp2
      rename World => ws
      
      go_loopw [8, 9] (fun av iv wr => ∃ (A1 : Option Addr) (n1 c1 i : Nat) (Z1 : List J), av = .slice A1 n1 c1 ∧ iv = .int .i64 (i : Int) ∧ i ≤ n ∧ Hid (MkSt w (.slice A1 n1 c1) Z1 wr) ∧ Hid (PSet (i * 1000) (itemsOf Z1) ∧ ∀ f, netS f (itemsOf Z1) = netS f ((itemsOf Z).take i)) ∧ Hid (Ev w wr)) (fun _ iv _ => n - (intOf iv).toNat)
      case atStart => exact ⟨none, 0, 0, 0, [], rfl, rfl, Nat.zero_le _, Lib.hid (MkSt.start w ws), Lib.hid ⟨PSet.nil_ _, fun f => rfl⟩, HE⟩
      case round =>
        clear HE hi hlt
        obtain ⟨A1, n1, c1, i, Z1, rfl, rfl, hi, HMS, HPS, HEE⟩ := hrel
        by_cases hlt : i < n
        · obtain ⟨b, off, x, rfl, hxb, _, hx, x0, x1, hv⟩ := (H.out.ev HEE.out).at hlt
          have HAX := Lib.hid (HA.out x (List.mem_of_getElem? hx))
          have hx1 := HAX.out.2.1
          have hx2 := HAX.out.2.2.1
          have hx3 := HAX.out.2.2.2
          obtain ⟨pn, hpn⟩ : ∃ pn : Nat, x.2.2.1 = (pn : Int) := ⟨x.2.2.1.toNat, by omega⟩
          unfold jrow at x0
          unfold jtal at x1
          rw [hpn, hx3] at x1
          have HXN : Hid (x.2.1 ≠ []) := Lib.hid (fun e => by have := HAX.out.1; rw [e] at this; cases this)
          have HTK : Hid ((itemsOf Z).take (i + 1) = (itemsOf Z).take i ++ [x.2]) := Lib.hid (by
            have h1 : (itemsOf Z)[i]? = some x.2 := by unfold itemsOf; rw [List.getElem?_map, hx]; rfl
            obtain ⟨hk2, e1⟩ := List.getElem?_eq_some_iff.1 h1
            rw [List.take_succ_eq_append_getElem hk2, e1])
          have HXV := Lib.hid hv
          have HPN := Lib.hid hpn
          have hzl1 : Z1.length = n1 := HMS.out.sl.len
          have HZL := Lib.hid hzl1
          have hml := zok_len HPS.out.1.z
          rw [itemsOf_length, hzl1] at hml
          have hnm : n1 ≤ 500000 := by omega
          have hn1c := HMS.out.sl.le
          have hn1m := HMS.out.sl.max
          have i1 : (0 : Int) ≤ (i : Int) := by omega
          have i2 : (i : Int) < (n : Int) := by omega
          have HXX := Lib.hid hx
          have hpnb : 1 ≤ pn ∧ pn ≤ 1000 := by omega
          clear hx hx1 hx2 hx3 hpn hv hzl1 hml
          go_wp2
          go_loopw [10] (fun kv wq => ∃ k : Nat, kv = .int .i64 (k : Int) ∧ k ≤ n1 ∧ Hid (∀ j y, j < k → (itemsOf Z1)[j]? = some y → lessR y.1 x.2.1 = true) ∧ Hid (Ev wr wq)) (fun kv _ => n1 - (intOf kv).toNat)
          case atStart => exact ⟨0, rfl, Nat.zero_le _, Lib.hid (fun j y hj => by omega), Lib.hid (Ev.refl _)⟩
          case round =>
            rename World => wo
            obtain ⟨k, rfl, hkn, HLL, HE3⟩ := hrel
            have HX0 := Lib.hid x0
            have HX1 := Lib.hid x1
            have HXB := Lib.hid hxb
            have hkc : k ≤ c1 := by omega
            have HRD : Hid (∀ w1, Calls Tryz.prog 48 #[.complex .f64 (fl (pn : Int)) (fl 0)] w1 fun e w' => e = .returned (.complex .f64 (fl (redP (pn : Int))) (fl (redQ (pn : Int)))) ∧ w1 = w') := Lib.hid (fun w1 => by
              have h9 := rf3_reduce pn 0 (by omega) (by omega) w1
              rw [show (pn : Int) - ((0 : Nat) : Int) = (pn : Int) by omega] at h9
              exact h9)
            have HXL : Hid (x.2.1.length * 32 ≤ 140737488355328 ∧ x.2.1.length ≤ 1000000000) := Lib.hid (by have := rightR_len HAX.out.1; omega)
            by_cases hlk : k < n1
            · obtain ⟨g, rfl⟩ := HMS.out.some_ (by omega)
              obtain ⟨y, hy⟩ : ∃ y, Z1[k]? = some y := ⟨_, List.getElem?_eq_getElem (by rw [HZL.out]; exact hlk)⟩
              have hyi : (itemsOf Z1)[k]? = some y.2 := by unfold itemsOf; rw [List.getElem?_map, hy]; rfl
              have hyad := HPS.out.1.nn.adds HPS.out.1.z y.2 (List.mem_of_getElem? hyi)
              have hyp := (HPS.out.1.z.parts y.2 (List.mem_of_getElem? hyi)).1
              have hyr := HPS.out.1.z.right y.2 (List.mem_of_getElem? hyi)
              obtain ⟨yn, hyn⟩ : ∃ yn : Nat, y.2.2.1 = (yn : Int) := ⟨y.2.2.1.toNat, by omega⟩
              have HY := Lib.hid hy
              have HYI := Lib.hid hyi
              have HYN := Lib.hid hyn
              have HYQ := Lib.hid hyad.2
              have HYR := Lib.hid hyr
              have HYB : Hid (1 ≤ yn ∧ yn ≤ 1125899906842624) := Lib.hid (by unfold Part at hyp; have := hyad.1; omega)
              have HCY : Hid (∀ w1, Ev wr w1 → (g < w1.heap.size ∧ w1.cell? ⟨g, k * 2, none⟩ = some (.slice y.1.1 y.1.2.1 y.1.2.2) ∧ w1.cell? ⟨g, k * 2 + 1, none⟩ = some (.complex .f64 (fl (yn : Int)) (fl 0)) ∧ (∀ j, w1.frozen? ⟨g, j, none⟩ = false)) ∧ Vs w1 y.1.1 y.1.2.1 y.1.2.2 y.2.1) := Lib.hid (fun w1 hE => by
                obtain ⟨h1, h2, h3, h4, h5⟩ := (HMS.out.ev hE).cell HY.out
                unfold jtal at h3
                rw [HYN.out, HYQ.out] at h3
                exact ⟨⟨h1, h2, h3, h4⟩, h5⟩)
              have HCX : Hid (∀ w1, Ev wr w1 → (b < w1.heap.size ∧ w1.cell? ⟨b, off + i * 2, none⟩ = some (.slice x.1.1 x.1.2.1 x.1.2.2) ∧ w1.cell? ⟨b, off + i * 2 + 1, none⟩ = some (.complex .f64 (fl (pn : Int)) (fl 0))) ∧ Vs w1 x.1.1 x.1.2.1 x.1.2.2 x.2.1) := Lib.hid (fun w1 hE => ⟨⟨Nat.lt_of_lt_of_le HXB.out hE.size, (hE.cell (p := ⟨b, off + i * 2, none⟩) HXB.out).trans HX0.out, (hE.cell (p := ⟨b, off + i * 2 + 1, none⟩) HXB.out).trans HX1.out⟩, HXV.out.ev hE⟩)
              have HLS := Lib.hid (fun w1 (hE : Ev wo w1) => ref5_less w1 (HCY.out w1 (HE3.out.trans hE)).2 (HCX.out w1 (HE3.out.trans hE)).2)
              have HSS := Lib.hid (fun w1 (hE : Ev wr w1) => ref5_same w1 (HCY.out w1 hE).2 (HCX.out w1 hE).2)
              generalize hls : lessR y.2.1 x.2.1 = ls at *
              generalize hsm : sameR y.2.1 x.2.1 = sm at *
              have HLE := Lib.hid hls
              have HSE := Lib.hid hsm
              have j1 : (0 : Int) ≤ (k : Int) := by omega
              have j2 : (k : Int) < (n1 : Int) := by omega
              have i6 : ¬ (c1 = k) := by omega
              clear x0 x1 hxb hy hyi hyad hyp hyr hyn hls hsm
              obtain ⟨⟨hyb, y0, y1, _⟩, _⟩ := HCY.out wo HE3.out
              obtain ⟨⟨hxb, x0, x1⟩, _⟩ := HCX.out wo HE3.out
              go_upto_region 12 with fail
              refine wp_region_slots hmix [fun v _ => v = .int .i64 (k : Int), fun v _ => v = .slice (some ⟨g, 0, none⟩) n1 c1, fun v _ => v = .int .i64 (n1 : Int), fun v _ => v = .bool true, fun v _ => v = .bool true, fun v _ => v = .slice (some ⟨g, 0, none⟩) n1 c1, fun v _ => v = .int .i64 (k : Int), fun v _ => v = .pointer (some ⟨g, k * 2, none⟩), fun v _ => v = .pointer (some ⟨g, k * 2, none⟩), fun v _ => v = .slice y.1.1 y.1.2.1 y.1.2.2, fun v _ => v = .slice (some ⟨b, off, none⟩) n cap, fun v _ => v = .int .i64 (i : Int), fun v _ => v = .pointer (some ⟨b, off + i * 2, none⟩), fun v _ => v = .pointer (some ⟨b, off + i * 2, none⟩), fun v _ => v = .slice x.1.1 x.1.2.1 x.1.2.2, fun v _ => v = .bool ls, fun v _ => v = .bool ls]
                152 rfl (by kernel_rfl) ⟨mono_eq _, mono_eq _, mono_eq _, mono_eq _, mono_eq _, mono_eq _, mono_eq _, mono_eq _, mono_eq _, mono_eq _, mono_eq _, mono_eq _, mono_eq _, mono_eq _, mono_eq _, mono_eq _, mono_eq _, trivial⟩ ?_ ?_
              · refine ops_cons 0 ?_ (ops_cons 1 ?_ (ops_cons 2 ?_ (ops_cons 3 ?_ (ops_cons 4 ?_ (ops_cons 5 ?_ (ops_cons 6 ?_ (ops_cons 7 ?_ (ops_cons 8 ?_ (ops_cons 9 ?_ (ops_cons 10 ?_ (ops_cons 11 ?_ (ops_cons 12 ?_ (ops_cons 13 ?_ (ops_cons 14 ?_ (ops_cons 15 ?_ (ops_cons 16 ?_ (ops_nil 17)))))))))))))))))
                · refine op_value fun a wq c => ⟨(wanted_plain rfl), _, run_move _ rfl wq, (c.was 10 (by kernel_rfl) rfl)⟩
                · refine op_value fun a wq c => ⟨(wanted_plain rfl), _, run_move _ rfl wq, (c.was 8 (by kernel_rfl) rfl)⟩
                · refine op_value fun a wq c => ⟨(wanted_plain rfl), _, run_len_set rfl ((c.new 1 50 (by kernel_rfl) (by kernel_rfl)) : a.eval (.tmp 50) = .slice (some ⟨g, 0, none⟩) n1 c1) wq, rfl⟩
                · refine op_value fun a wq c => ⟨(wanted_plain rfl), .bool true, ?_, rfl⟩
                  have e49 : a.eval (.tmp 49) = .int .i64 (k : Int) := (c.new 0 49 (by kernel_rfl) (by kernel_rfl))
                  have e51 : a.eval (.tmp 51) = .int .i64 (n1 : Int) := (c.new 2 51 (by kernel_rfl) (by kernel_rfl))
                  generalize a.eval = ρ at e49 e51 ⊢
                  simp [execOp, e49, e51, go_sem, j2]
                · refine op_value fun a wq c => ⟨(wanted_plain rfl), _, run_move _ rfl wq, (c.new 3 52 (by kernel_rfl) (by kernel_rfl))⟩
                · refine op_value fun a wq c => ⟨(wanted_yes rfl (by kernel_rfl) (c.new 4 53 (by kernel_rfl) (by kernel_rfl))), _, run_move _ rfl wq, (c.was 8 (by kernel_rfl) rfl)⟩
                · refine op_value fun a wq c => ⟨(wanted_yes rfl (by kernel_rfl) (c.new 4 53 (by kernel_rfl) (by kernel_rfl))), _, run_move _ rfl wq, (c.was 10 (by kernel_rfl) rfl)⟩
                · refine op_value fun a wq c => ⟨(wanted_yes rfl (by kernel_rfl) (c.new 4 53 (by kernel_rfl) (by kernel_rfl))), .pointer (some ⟨g, k * 2, none⟩), ?_, rfl⟩
                  have e54 : a.eval (.tmp 54) = .slice (some ⟨g, 0, none⟩) n1 c1 := (c.new 5 54 (by kernel_rfl) (by kernel_rfl))
                  have e55 : a.eval (.tmp 55) = .int .i64 (k : Int) := (c.new 6 55 (by kernel_rfl) (by kernel_rfl))
                  generalize a.eval = ρ at e54 e55 ⊢
                  simp [execOp, e54, e55, go_sem, j1, j2]
                · refine op_value fun a wq c => ⟨(wanted_yes rfl (by kernel_rfl) (c.new 4 53 (by kernel_rfl) (by kernel_rfl))), .pointer (some ⟨g, k * 2, none⟩), ?_, rfl⟩
                  have e56 : a.eval (.tmp 56) = .pointer (some ⟨g, k * 2, none⟩) := (c.new 7 56 (by kernel_rfl) (by kernel_rfl))
                  generalize a.eval = ρ at e56 ⊢
                  simp [execOp, e56, go_sem]
                · refine op_value fun a wq c => ⟨(wanted_yes rfl (by kernel_rfl) (c.new 4 53 (by kernel_rfl) (by kernel_rfl))), .slice y.1.1 y.1.2.1 y.1.2.2, ?_, rfl⟩
                  have e57 : a.eval (.tmp 57) = .pointer (some ⟨g, k * 2, none⟩) := (c.new 8 57 (by kernel_rfl) (by kernel_rfl))
                  have hc := (c.ev.cell (p := ⟨g, k * 2, none⟩) hyb).trans y0
                  generalize a.eval = ρ at e57 ⊢
                  simp [execOp, e57, hc, go_sem]
                · refine op_value fun a wq c => ⟨(wanted_yes rfl (by kernel_rfl) (c.new 4 53 (by kernel_rfl) (by kernel_rfl))), _, run_move _ rfl wq, (c.was 0 (by kernel_rfl) rfl)⟩
                · refine op_value fun a wq c => ⟨(wanted_yes rfl (by kernel_rfl) (c.new 4 53 (by kernel_rfl) (by kernel_rfl))), _, run_move _ rfl wq, (c.was 9 (by kernel_rfl) rfl)⟩
                · refine op_value fun a wq c => ⟨(wanted_yes rfl (by kernel_rfl) (c.new 4 53 (by kernel_rfl) (by kernel_rfl))), .pointer (some ⟨b, off + i * 2, none⟩), ?_, rfl⟩
                  have e59 : a.eval (.tmp 59) = .slice (some ⟨b, off, none⟩) n cap := (c.new 10 59 (by kernel_rfl) (by kernel_rfl))
                  have e60 : a.eval (.tmp 60) = .int .i64 (i : Int) := (c.new 11 60 (by kernel_rfl) (by kernel_rfl))
                  generalize a.eval = ρ at e59 e60 ⊢
                  simp [execOp, e59, e60, go_sem, i1, i2]
                · refine op_value fun a wq c => ⟨(wanted_yes rfl (by kernel_rfl) (c.new 4 53 (by kernel_rfl) (by kernel_rfl))), .pointer (some ⟨b, off + i * 2, none⟩), ?_, rfl⟩
                  have e61 : a.eval (.tmp 61) = .pointer (some ⟨b, off + i * 2, none⟩) := (c.new 12 61 (by kernel_rfl) (by kernel_rfl))
                  generalize a.eval = ρ at e61 ⊢
                  simp [execOp, e61, go_sem]
                · refine op_value fun a wq c => ⟨(wanted_yes rfl (by kernel_rfl) (c.new 4 53 (by kernel_rfl) (by kernel_rfl))), .slice x.1.1 x.1.2.1 x.1.2.2, ?_, rfl⟩
                  have e62 : a.eval (.tmp 62) = .pointer (some ⟨b, off + i * 2, none⟩) := (c.new 13 62 (by kernel_rfl) (by kernel_rfl))
                  have hc := (c.ev.cell (p := ⟨b, off + i * 2, none⟩) hxb).trans x0
                  generalize a.eval = ρ at e62 ⊢
                  simp [execOp, e62, hc, go_sem]
                · refine op_call fun a wq c => ⟨(wanted_yes rfl (by kernel_rfl) (c.new 4 53 (by kernel_rfl) (by kernel_rfl))), 45, #[.slice y.1.1 y.1.2.1 y.1.2.2, .slice x.1.1 x.1.2.1 x.1.2.2], ?_, ?_⟩
                  · rw [run_call 45 _ _ rfl (by kernel_rfl)]
                    have e58 : a.eval (.tmp 58) = .slice y.1.1 y.1.2.1 y.1.2.2 := (c.new 9 58 (by kernel_rfl) (by kernel_rfl))
                    have e63 : a.eval (.tmp 63) = .slice x.1.1 x.1.2.1 x.1.2.2 := (c.new 14 63 (by kernel_rfl) (by kernel_rfl))
                    simp [e58, e63]
                  · refine (HLS.out _ c.ev).mono ?_
                    rintro e wp ⟨rfl, hE_⟩
                    exact ⟨_, rfl, hE_, rfl⟩
                · refine op_value fun a wq c => ⟨(wanted_plain rfl), _, run_pick_true rfl (c.new 4 53 (by kernel_rfl) (by kernel_rfl)) wq, (c.new 15 64 (by kernel_rfl) (by kernel_rfl))⟩
              intro s w3 hE hold hnew
              have f0 : s 0 = .slice (some ⟨b, off, none⟩) n cap := hold 0 (by kernel_rfl)
              have f1 : s 1 = undef := hold 1 (by kernel_rfl)
              have f2 : s 2 = u2 := hold 2 (by kernel_rfl)
              have f3 : s 3 = u3 := hold 3 (by kernel_rfl)
              have f4 : s 4 = .int .i64 (n : Int) := hold 4 (by kernel_rfl)
              have f5 : s 5 = u5 := hold 5 (by kernel_rfl)
              have f6 : s 6 = u6 := hold 6 (by kernel_rfl)
              have f7 : s 7 = u7 := hold 7 (by kernel_rfl)
              have f8 : s 8 = .slice (some ⟨g, 0, none⟩) n1 c1 := hold 8 (by kernel_rfl)
              have f9 : s 9 = .int .i64 (i : Int) := hold 9 (by kernel_rfl)
              have f10 : s 10 = .int .i64 (k : Int) := hold 10 (by kernel_rfl)
              have f11 : s 11 = u11 := hold 11 (by kernel_rfl)
              have f12 : s 12 = u12 := hold 12 (by kernel_rfl)
              have f13 : s 13 = u13 := hold 13 (by kernel_rfl)
              have f14 : s 14 = undef := hold 14 (by kernel_rfl)
              have f15 : s 15 = undef := hold 15 (by kernel_rfl)
              have f16 : s 16 = .int .i64 (n : Int) := hold 16 (by kernel_rfl)
              have f17 : s 17 = .slice (some ⟨b, off, none⟩) n cap := hold 17 (by kernel_rfl)
              have f18 : s 18 = .int .i64 (n : Int) := hold 18 (by kernel_rfl)
              have f19 : s 19 = .bool false := hold 19 (by kernel_rfl)
              have f20 : s 20 = u20 := hold 20 (by kernel_rfl)
              have f21 : s 21 = u21 := hold 21 (by kernel_rfl)
              have f22 : s 22 = u22 := hold 22 (by kernel_rfl)
              have f23 : s 23 = u23 := hold 23 (by kernel_rfl)
              have f24 : s 24 = u24 := hold 24 (by kernel_rfl)
              have f25 : s 25 = u25 := hold 25 (by kernel_rfl)
              have f26 : s 26 = u26 := hold 26 (by kernel_rfl)
              have f27 : s 27 = u27 := hold 27 (by kernel_rfl)
              have f28 : s 28 = u28 := hold 28 (by kernel_rfl)
              have f29 : s 29 = u29 := hold 29 (by kernel_rfl)
              have f30 : s 30 = u30 := hold 30 (by kernel_rfl)
              have f31 : s 31 = u31 := hold 31 (by kernel_rfl)
              have f32 : s 32 = u32 := hold 32 (by kernel_rfl)
              have f33 : s 33 = u33 := hold 33 (by kernel_rfl)
              have f34 : s 34 = u34 := hold 34 (by kernel_rfl)
              have f35 : s 35 = u35 := hold 35 (by kernel_rfl)
              have f36 : s 36 = u36 := hold 36 (by kernel_rfl)
              have f37 : s 37 = u37 := hold 37 (by kernel_rfl)
              have f38 : s 38 = u38 := hold 38 (by kernel_rfl)
              have f39 : s 39 = u39 := hold 39 (by kernel_rfl)
              have f40 : s 40 = u40 := hold 40 (by kernel_rfl)
              have f41 : s 41 = u41 := hold 41 (by kernel_rfl)
              have f42 : s 42 = u42 := hold 42 (by kernel_rfl)
              have f43 : s 43 = .int .i64 (i : Int) := hold 43 (by kernel_rfl)
              have f44 : s 44 = .slice (some ⟨b, off, none⟩) n cap := hold 44 (by kernel_rfl)
              have f45 : s 45 = .int .i64 (n : Int) := hold 45 (by kernel_rfl)
              have f46 : s 46 = .bool true := hold 46 (by kernel_rfl)
              have f47 : s 47 = u47 := hold 47 (by kernel_rfl)
              have f48 : s 48 = u48 := hold 48 (by kernel_rfl)
              have f68 : s 68 = u68 := hold 68 (by kernel_rfl)
              have f69 : s 69 = u69 := hold 69 (by kernel_rfl)
              have f70 : s 70 = u70 := hold 70 (by kernel_rfl)
              have f71 : s 71 = u71 := hold 71 (by kernel_rfl)
              have f72 : s 72 = u72 := hold 72 (by kernel_rfl)
              have f73 : s 73 = u73 := hold 73 (by kernel_rfl)
              have f74 : s 74 = u74 := hold 74 (by kernel_rfl)
              have f75 : s 75 = u75 := hold 75 (by kernel_rfl)
              have f76 : s 76 = u76 := hold 76 (by kernel_rfl)
              have f77 : s 77 = u77 := hold 77 (by kernel_rfl)
              have f78 : s 78 = u78 := hold 78 (by kernel_rfl)
              have f79 : s 79 = u79 := hold 79 (by kernel_rfl)
              have f80 : s 80 = u80 := hold 80 (by kernel_rfl)
              have f81 : s 81 = u81 := hold 81 (by kernel_rfl)
              have f82 : s 82 = u82 := hold 82 (by kernel_rfl)
              have f83 : s 83 = u83 := hold 83 (by kernel_rfl)
              have f84 : s 84 = u84 := hold 84 (by kernel_rfl)
              have f85 : s 85 = u85 := hold 85 (by kernel_rfl)
              have f86 : s 86 = u86 := hold 86 (by kernel_rfl)
              have f87 : s 87 = u87 := hold 87 (by kernel_rfl)
              have f88 : s 88 = u88 := hold 88 (by kernel_rfl)
              have f89 : s 89 = u89 := hold 89 (by kernel_rfl)
              have f90 : s 90 = u90 := hold 90 (by kernel_rfl)
              have f91 : s 91 = u91 := hold 91 (by kernel_rfl)
              have f92 : s 92 = u92 := hold 92 (by kernel_rfl)
              have f93 : s 93 = u93 := hold 93 (by kernel_rfl)
              have f94 : s 94 = u94 := hold 94 (by kernel_rfl)
              have f95 : s 95 = u95 := hold 95 (by kernel_rfl)
              have f96 : s 96 = u96 := hold 96 (by kernel_rfl)
              have f97 : s 97 = u97 := hold 97 (by kernel_rfl)
              have f98 : s 98 = u98 := hold 98 (by kernel_rfl)
              have f99 : s 99 = u99 := hold 99 (by kernel_rfl)
              have f100 : s 100 = u100 := hold 100 (by kernel_rfl)
              have f101 : s 101 = u101 := hold 101 (by kernel_rfl)
              have f102 : s 102 = u102 := hold 102 (by kernel_rfl)
              have f103 : s 103 = u103 := hold 103 (by kernel_rfl)
              have f104 : s 104 = u104 := hold 104 (by kernel_rfl)
              have f105 : s 105 = u105 := hold 105 (by kernel_rfl)
              have f106 : s 106 = u106 := hold 106 (by kernel_rfl)
              have f107 : s 107 = u107 := hold 107 (by kernel_rfl)
              have f108 : s 108 = u108 := hold 108 (by kernel_rfl)
              have f109 : s 109 = u109 := hold 109 (by kernel_rfl)
              have f110 : s 110 = u110 := hold 110 (by kernel_rfl)
              have f111 : s 111 = u111 := hold 111 (by kernel_rfl)
              have f112 : s 112 = u112 := hold 112 (by kernel_rfl)
              have f113 : s 113 = u113 := hold 113 (by kernel_rfl)
              have f114 : s 114 = u114 := hold 114 (by kernel_rfl)
              have f115 : s 115 = u115 := hold 115 (by kernel_rfl)
              have f116 : s 116 = u116 := hold 116 (by kernel_rfl)
              have f117 : s 117 = u117 := hold 117 (by kernel_rfl)
              have f118 : s 118 = u118 := hold 118 (by kernel_rfl)
              have f119 : s 119 = u119 := hold 119 (by kernel_rfl)
              have f120 : s 120 = u120 := hold 120 (by kernel_rfl)
              have f121 : s 121 = u121 := hold 121 (by kernel_rfl)
              have f122 : s 122 = u122 := hold 122 (by kernel_rfl)
              have f123 : s 123 = u123 := hold 123 (by kernel_rfl)
              have f124 : s 124 = u124 := hold 124 (by kernel_rfl)
              have f125 : s 125 = u125 := hold 125 (by kernel_rfl)
              have f126 : s 126 = u126 := hold 126 (by kernel_rfl)
              have f127 : s 127 = u127 := hold 127 (by kernel_rfl)
              have f128 : s 128 = u128 := hold 128 (by kernel_rfl)
              have f129 : s 129 = u129 := hold 129 (by kernel_rfl)
              have f130 : s 130 = u130 := hold 130 (by kernel_rfl)
              have f131 : s 131 = u131 := hold 131 (by kernel_rfl)
              have f132 : s 132 = undef := hold 132 (by kernel_rfl)
              have f133 : s 133 = undef := hold 133 (by kernel_rfl)
              have f134 : s 134 = undef := hold 134 (by kernel_rfl)
              have f135 : s 135 = undef := hold 135 (by kernel_rfl)
              have f136 : s 136 = undef := hold 136 (by kernel_rfl)
              have f137 : s 137 = undef := hold 137 (by kernel_rfl)
              have f138 : s 138 = undef := hold 138 (by kernel_rfl)
              have f139 : s 139 = undef := hold 139 (by kernel_rfl)
              have f140 : s 140 = undef := hold 140 (by kernel_rfl)
              have f141 : s 141 = undef := hold 141 (by kernel_rfl)
              have f142 : s 142 = undef := hold 142 (by kernel_rfl)
              have f143 : s 143 = undef := hold 143 (by kernel_rfl)
              have f144 : s 144 = undef := hold 144 (by kernel_rfl)
              have f145 : s 145 = undef := hold 145 (by kernel_rfl)
              have f146 : s 146 = undef := hold 146 (by kernel_rfl)
              have f147 : s 147 = undef := hold 147 (by kernel_rfl)
              have f148 : s 148 = undef := hold 148 (by kernel_rfl)
              have f149 : s 149 = undef := hold 149 (by kernel_rfl)
              have f150 : s 150 = undef := hold 150 (by kernel_rfl)
              have f151 : s 151 = undef := hold 151 (by kernel_rfl)
              have f49 : s 49 = .int .i64 (k : Int) := hnew 0 49 (by kernel_rfl)
              have f50 : s 50 = .slice (some ⟨g, 0, none⟩) n1 c1 := hnew 1 50 (by kernel_rfl)
              have f51 : s 51 = .int .i64 (n1 : Int) := hnew 2 51 (by kernel_rfl)
              have f52 : s 52 = .bool true := hnew 3 52 (by kernel_rfl)
              have f53 : s 53 = .bool true := hnew 4 53 (by kernel_rfl)
              have f54 : s 54 = .slice (some ⟨g, 0, none⟩) n1 c1 := hnew 5 54 (by kernel_rfl)
              have f55 : s 55 = .int .i64 (k : Int) := hnew 6 55 (by kernel_rfl)
              have f56 : s 56 = .pointer (some ⟨g, k * 2, none⟩) := hnew 7 56 (by kernel_rfl)
              have f57 : s 57 = .pointer (some ⟨g, k * 2, none⟩) := hnew 8 57 (by kernel_rfl)
              have f58 : s 58 = .slice y.1.1 y.1.2.1 y.1.2.2 := hnew 9 58 (by kernel_rfl)
              have f59 : s 59 = .slice (some ⟨b, off, none⟩) n cap := hnew 10 59 (by kernel_rfl)
              have f60 : s 60 = .int .i64 (i : Int) := hnew 11 60 (by kernel_rfl)
              have f61 : s 61 = .pointer (some ⟨b, off + i * 2, none⟩) := hnew 12 61 (by kernel_rfl)
              have f62 : s 62 = .pointer (some ⟨b, off + i * 2, none⟩) := hnew 13 62 (by kernel_rfl)
              have f63 : s 63 = .slice x.1.1 x.1.2.1 x.1.2.2 := hnew 14 63 (by kernel_rfl)
              have f64 : s 64 = .bool ls := hnew 15 64 (by kernel_rfl)
              have f65 : s 65 = .bool ls := hnew 16 65 (by kernel_rfl)
              change Exit.then _ _ .normal ⟨#[s 0, s 1, s 2, s 3, s 4, s 5, s 6, s 7, s 8, s 9, s 10, s 11, s 12, s 13, s 14, s 15, s 16, s 17, s 18, s 19, s 20, s 21, s 22, s 23, s 24, s 25, s 26, s 27, s 28, s 29, s 30, s 31, s 32, s 33, s 34, s 35, s 36, s 37, s 38, s 39, s 40, s 41, s 42, s 43, s 44, s 45, s 46, s 47, s 48, s 49, s 50, s 51, s 52, s 53, s 54, s 55, s 56, s 57, s 58, s 59, s 60, s 61, s 62, s 63, s 64, s 65, s 66, s 67, s 68, s 69, s 70, s 71, s 72, s 73, s 74, s 75, s 76, s 77, s 78, s 79, s 80, s 81, s 82, s 83, s 84, s 85, s 86, s 87, s 88, s 89, s 90, s 91, s 92, s 93, s 94, s 95, s 96, s 97, s 98, s 99, s 100, s 101, s 102, s 103, s 104, s 105, s 106, s 107, s 108, s 109, s 110, s 111, s 112, s 113, s 114, s 115, s 116, s 117, s 118, s 119, s 120, s 121, s 122, s 123, s 124, s 125, s 126, s 127, s 128, s 129, s 130, s 131, s 132, s 133, s 134, s 135, s 136, s 137, s 138, s 139, s 140, s 141, s 142, s 143, s 144, s 145, s 146, s 147, s 148, s 149, s 150, s 151], _⟩ _
              simp only [f0, f1, f2, f3, f4, f5, f6, f7, f8, f9, f10, f11, f12, f13, f14, f15, f16, f17, f18, f19, f20, f21, f22, f23, f24, f25, f26, f27, f28, f29, f30, f31, f32, f33, f34, f35, f36, f37, f38, f39, f40, f41, f42, f43, f44, f45, f46, f47, f48, f68, f69, f70, f71, f72, f73, f74, f75, f76, f77, f78, f79, f80, f81, f82, f83, f84, f85, f86, f87, f88, f89, f90, f91, f92, f93, f94, f95, f96, f97, f98, f99, f100, f101, f102, f103, f104, f105, f106, f107, f108, f109, f110, f111, f112, f113, f114, f115, f116, f117, f118, f119, f120, f121, f122, f123, f124, f125, f126, f127, f128, f129, f130, f131, f132, f133, f134, f135, f136, f137, f138, f139, f140, f141, f142, f143, f144, f145, f146, f147, f148, f149, f150, f151, f49, f50, f51, f52, f53, f54, f55, f56, f57, f58, f59, f60, f61, f62, f63, f64, f65]
              clear hold hnew
              generalize s 66 = u66
              generalize s 67 = u67
              have HE4 := Lib.hid (HE3.out.trans hE)
              clear hE hyb y0 y1 hxb x0 x1
              cases ls
              · obtain ⟨⟨hyb, y0, y1, _⟩, _⟩ := HCY.out w3 HE4.out
                obtain ⟨⟨hxb, x0, x1⟩, _⟩ := HCX.out w3 HE4.out
                have HSW := Lib.hid (fun w1 (hE : Ev w3 w1) => HSS.out w1 (HE4.out.trans hE))
                go_upto_region 14 with fail
                refine wp_region_slots hmix [fun v _ => v = .int .i64 (k : Int), fun v _ => v = .slice (some ⟨g, 0, none⟩) n1 c1, fun v _ => v = .int .i64 (n1 : Int), fun v _ => v = .bool true, fun v _ => v = .bool true, fun v _ => v = .slice (some ⟨g, 0, none⟩) n1 c1, fun v _ => v = .int .i64 (k : Int), fun v _ => v = .pointer (some ⟨g, k * 2, none⟩), fun v _ => v = .pointer (some ⟨g, k * 2, none⟩), fun v _ => v = .slice y.1.1 y.1.2.1 y.1.2.2, fun v _ => v = .slice (some ⟨b, off, none⟩) n cap, fun v _ => v = .int .i64 (i : Int), fun v _ => v = .pointer (some ⟨b, off + i * 2, none⟩), fun v _ => v = .pointer (some ⟨b, off + i * 2, none⟩), fun v _ => v = .slice x.1.1 x.1.2.1 x.1.2.2, fun v _ => v = .bool sm, fun v _ => v = .bool sm]
                  152 rfl (by kernel_rfl) ⟨mono_eq _, mono_eq _, mono_eq _, mono_eq _, mono_eq _, mono_eq _, mono_eq _, mono_eq _, mono_eq _, mono_eq _, mono_eq _, mono_eq _, mono_eq _, mono_eq _, mono_eq _, mono_eq _, mono_eq _, trivial⟩ ?_ ?_
                · refine ops_cons 0 ?_ (ops_cons 1 ?_ (ops_cons 2 ?_ (ops_cons 3 ?_ (ops_cons 4 ?_ (ops_cons 5 ?_ (ops_cons 6 ?_ (ops_cons 7 ?_ (ops_cons 8 ?_ (ops_cons 9 ?_ (ops_cons 10 ?_ (ops_cons 11 ?_ (ops_cons 12 ?_ (ops_cons 13 ?_ (ops_cons 14 ?_ (ops_cons 15 ?_ (ops_cons 16 ?_ (ops_nil 17)))))))))))))))))
                  · refine op_value fun a wq c => ⟨(wanted_plain rfl), _, run_move _ rfl wq, (c.was 10 (by kernel_rfl) rfl)⟩
                  · refine op_value fun a wq c => ⟨(wanted_plain rfl), _, run_move _ rfl wq, (c.was 8 (by kernel_rfl) rfl)⟩
                  · refine op_value fun a wq c => ⟨(wanted_plain rfl), _, run_len_set rfl ((c.new 1 69 (by kernel_rfl) (by kernel_rfl)) : a.eval (.tmp 69) = .slice (some ⟨g, 0, none⟩) n1 c1) wq, rfl⟩
                  · refine op_value fun a wq c => ⟨(wanted_plain rfl), .bool true, ?_, rfl⟩
                    have e68 : a.eval (.tmp 68) = .int .i64 (k : Int) := (c.new 0 68 (by kernel_rfl) (by kernel_rfl))
                    have e70 : a.eval (.tmp 70) = .int .i64 (n1 : Int) := (c.new 2 70 (by kernel_rfl) (by kernel_rfl))
                    generalize a.eval = ρ at e68 e70 ⊢
                    simp [execOp, e68, e70, go_sem, j2]
                  · refine op_value fun a wq c => ⟨(wanted_plain rfl), _, run_move _ rfl wq, (c.new 3 71 (by kernel_rfl) (by kernel_rfl))⟩
                  · refine op_value fun a wq c => ⟨(wanted_yes rfl (by kernel_rfl) (c.new 4 72 (by kernel_rfl) (by kernel_rfl))), _, run_move _ rfl wq, (c.was 8 (by kernel_rfl) rfl)⟩
                  · refine op_value fun a wq c => ⟨(wanted_yes rfl (by kernel_rfl) (c.new 4 72 (by kernel_rfl) (by kernel_rfl))), _, run_move _ rfl wq, (c.was 10 (by kernel_rfl) rfl)⟩
                  · refine op_value fun a wq c => ⟨(wanted_yes rfl (by kernel_rfl) (c.new 4 72 (by kernel_rfl) (by kernel_rfl))), .pointer (some ⟨g, k * 2, none⟩), ?_, rfl⟩
                    have e73 : a.eval (.tmp 73) = .slice (some ⟨g, 0, none⟩) n1 c1 := (c.new 5 73 (by kernel_rfl) (by kernel_rfl))
                    have e74 : a.eval (.tmp 74) = .int .i64 (k : Int) := (c.new 6 74 (by kernel_rfl) (by kernel_rfl))
                    generalize a.eval = ρ at e73 e74 ⊢
                    simp [execOp, e73, e74, go_sem, j1, j2]
                  · refine op_value fun a wq c => ⟨(wanted_yes rfl (by kernel_rfl) (c.new 4 72 (by kernel_rfl) (by kernel_rfl))), .pointer (some ⟨g, k * 2, none⟩), ?_, rfl⟩
                    have e75 : a.eval (.tmp 75) = .pointer (some ⟨g, k * 2, none⟩) := (c.new 7 75 (by kernel_rfl) (by kernel_rfl))
                    generalize a.eval = ρ at e75 ⊢
                    simp [execOp, e75, go_sem]
                  · refine op_value fun a wq c => ⟨(wanted_yes rfl (by kernel_rfl) (c.new 4 72 (by kernel_rfl) (by kernel_rfl))), .slice y.1.1 y.1.2.1 y.1.2.2, ?_, rfl⟩
                    have e76 : a.eval (.tmp 76) = .pointer (some ⟨g, k * 2, none⟩) := (c.new 8 76 (by kernel_rfl) (by kernel_rfl))
                    have hc := (c.ev.cell (p := ⟨g, k * 2, none⟩) hyb).trans y0
                    generalize a.eval = ρ at e76 ⊢
                    simp [execOp, e76, hc, go_sem]
                  · refine op_value fun a wq c => ⟨(wanted_yes rfl (by kernel_rfl) (c.new 4 72 (by kernel_rfl) (by kernel_rfl))), _, run_move _ rfl wq, (c.was 0 (by kernel_rfl) rfl)⟩
                  · refine op_value fun a wq c => ⟨(wanted_yes rfl (by kernel_rfl) (c.new 4 72 (by kernel_rfl) (by kernel_rfl))), _, run_move _ rfl wq, (c.was 9 (by kernel_rfl) rfl)⟩
                  · refine op_value fun a wq c => ⟨(wanted_yes rfl (by kernel_rfl) (c.new 4 72 (by kernel_rfl) (by kernel_rfl))), .pointer (some ⟨b, off + i * 2, none⟩), ?_, rfl⟩
                    have e78 : a.eval (.tmp 78) = .slice (some ⟨b, off, none⟩) n cap := (c.new 10 78 (by kernel_rfl) (by kernel_rfl))
                    have e79 : a.eval (.tmp 79) = .int .i64 (i : Int) := (c.new 11 79 (by kernel_rfl) (by kernel_rfl))
                    generalize a.eval = ρ at e78 e79 ⊢
                    simp [execOp, e78, e79, go_sem, i1, i2]
                  · refine op_value fun a wq c => ⟨(wanted_yes rfl (by kernel_rfl) (c.new 4 72 (by kernel_rfl) (by kernel_rfl))), .pointer (some ⟨b, off + i * 2, none⟩), ?_, rfl⟩
                    have e80 : a.eval (.tmp 80) = .pointer (some ⟨b, off + i * 2, none⟩) := (c.new 12 80 (by kernel_rfl) (by kernel_rfl))
                    generalize a.eval = ρ at e80 ⊢
                    simp [execOp, e80, go_sem]
                  · refine op_value fun a wq c => ⟨(wanted_yes rfl (by kernel_rfl) (c.new 4 72 (by kernel_rfl) (by kernel_rfl))), .slice x.1.1 x.1.2.1 x.1.2.2, ?_, rfl⟩
                    have e81 : a.eval (.tmp 81) = .pointer (some ⟨b, off + i * 2, none⟩) := (c.new 13 81 (by kernel_rfl) (by kernel_rfl))
                    have hc := (c.ev.cell (p := ⟨b, off + i * 2, none⟩) hxb).trans x0
                    generalize a.eval = ρ at e81 ⊢
                    simp [execOp, e81, hc, go_sem]
                  · refine op_call fun a wq c => ⟨(wanted_yes rfl (by kernel_rfl) (c.new 4 72 (by kernel_rfl) (by kernel_rfl))), 46, #[.slice y.1.1 y.1.2.1 y.1.2.2, .slice x.1.1 x.1.2.1 x.1.2.2], ?_, ?_⟩
                    · rw [run_call 46 _ _ rfl (by kernel_rfl)]
                      have e77 : a.eval (.tmp 77) = .slice y.1.1 y.1.2.1 y.1.2.2 := (c.new 9 77 (by kernel_rfl) (by kernel_rfl))
                      have e82 : a.eval (.tmp 82) = .slice x.1.1 x.1.2.1 x.1.2.2 := (c.new 14 82 (by kernel_rfl) (by kernel_rfl))
                      simp [e77, e82]
                    · refine (HSW.out _ c.ev).mono ?_
                      rintro e wp ⟨rfl, hE_⟩
                      exact ⟨_, rfl, hE_, rfl⟩
                  · refine op_value fun a wq c => ⟨(wanted_plain rfl), _, run_pick_true rfl (c.new 4 72 (by kernel_rfl) (by kernel_rfl)) wq, (c.new 15 83 (by kernel_rfl) (by kernel_rfl))⟩
                intro s w4 hE hold hnew
                have f0 : s 0 = .slice (some ⟨b, off, none⟩) n cap := hold 0 (by kernel_rfl)
                have f1 : s 1 = undef := hold 1 (by kernel_rfl)
                have f4 : s 4 = .int .i64 (n : Int) := hold 4 (by kernel_rfl)
                have f5 : s 5 = u5 := hold 5 (by kernel_rfl)
                have f6 : s 6 = u6 := hold 6 (by kernel_rfl)
                have f7 : s 7 = u7 := hold 7 (by kernel_rfl)
                have f8 : s 8 = .slice (some ⟨g, 0, none⟩) n1 c1 := hold 8 (by kernel_rfl)
                have f9 : s 9 = .int .i64 (i : Int) := hold 9 (by kernel_rfl)
                have f10 : s 10 = .int .i64 (k : Int) := hold 10 (by kernel_rfl)
                have f14 : s 14 = undef := hold 14 (by kernel_rfl)
                have f15 : s 15 = undef := hold 15 (by kernel_rfl)
                have f16 : s 16 = .int .i64 (n : Int) := hold 16 (by kernel_rfl)
                have f17 : s 17 = .slice (some ⟨b, off, none⟩) n cap := hold 17 (by kernel_rfl)
                have f18 : s 18 = .int .i64 (n : Int) := hold 18 (by kernel_rfl)
                have f19 : s 19 = .bool false := hold 19 (by kernel_rfl)
                have f20 : s 20 = u20 := hold 20 (by kernel_rfl)
                have f21 : s 21 = u21 := hold 21 (by kernel_rfl)
                have f22 : s 22 = u22 := hold 22 (by kernel_rfl)
                have f23 : s 23 = u23 := hold 23 (by kernel_rfl)
                have f24 : s 24 = u24 := hold 24 (by kernel_rfl)
                have f25 : s 25 = u25 := hold 25 (by kernel_rfl)
                have f26 : s 26 = u26 := hold 26 (by kernel_rfl)
                have f27 : s 27 = u27 := hold 27 (by kernel_rfl)
                have f28 : s 28 = u28 := hold 28 (by kernel_rfl)
                have f29 : s 29 = u29 := hold 29 (by kernel_rfl)
                have f30 : s 30 = u30 := hold 30 (by kernel_rfl)
                have f31 : s 31 = u31 := hold 31 (by kernel_rfl)
                have f32 : s 32 = u32 := hold 32 (by kernel_rfl)
                have f33 : s 33 = u33 := hold 33 (by kernel_rfl)
                have f34 : s 34 = u34 := hold 34 (by kernel_rfl)
                have f35 : s 35 = u35 := hold 35 (by kernel_rfl)
                have f36 : s 36 = u36 := hold 36 (by kernel_rfl)
                have f37 : s 37 = u37 := hold 37 (by kernel_rfl)
                have f38 : s 38 = u38 := hold 38 (by kernel_rfl)
                have f39 : s 39 = u39 := hold 39 (by kernel_rfl)
                have f40 : s 40 = u40 := hold 40 (by kernel_rfl)
                have f41 : s 41 = u41 := hold 41 (by kernel_rfl)
                have f42 : s 42 = u42 := hold 42 (by kernel_rfl)
                have f132 : s 132 = undef := hold 132 (by kernel_rfl)
                have f133 : s 133 = undef := hold 133 (by kernel_rfl)
                have f134 : s 134 = undef := hold 134 (by kernel_rfl)
                have f135 : s 135 = undef := hold 135 (by kernel_rfl)
                have f136 : s 136 = undef := hold 136 (by kernel_rfl)
                have f137 : s 137 = undef := hold 137 (by kernel_rfl)
                have f138 : s 138 = undef := hold 138 (by kernel_rfl)
                have f139 : s 139 = undef := hold 139 (by kernel_rfl)
                have f140 : s 140 = undef := hold 140 (by kernel_rfl)
                have f141 : s 141 = undef := hold 141 (by kernel_rfl)
                have f142 : s 142 = undef := hold 142 (by kernel_rfl)
                have f143 : s 143 = undef := hold 143 (by kernel_rfl)
                have f144 : s 144 = undef := hold 144 (by kernel_rfl)
                have f145 : s 145 = undef := hold 145 (by kernel_rfl)
                have f146 : s 146 = undef := hold 146 (by kernel_rfl)
                have f147 : s 147 = undef := hold 147 (by kernel_rfl)
                have f148 : s 148 = undef := hold 148 (by kernel_rfl)
                have f149 : s 149 = undef := hold 149 (by kernel_rfl)
                have f150 : s 150 = undef := hold 150 (by kernel_rfl)
                have f151 : s 151 = undef := hold 151 (by kernel_rfl)
                have f68 : s 68 = .int .i64 (k : Int) := hnew 0 68 (by kernel_rfl)
                have f69 : s 69 = .slice (some ⟨g, 0, none⟩) n1 c1 := hnew 1 69 (by kernel_rfl)
                have f70 : s 70 = .int .i64 (n1 : Int) := hnew 2 70 (by kernel_rfl)
                have f71 : s 71 = .bool true := hnew 3 71 (by kernel_rfl)
                have f72 : s 72 = .bool true := hnew 4 72 (by kernel_rfl)
                have f73 : s 73 = .slice (some ⟨g, 0, none⟩) n1 c1 := hnew 5 73 (by kernel_rfl)
                have f74 : s 74 = .int .i64 (k : Int) := hnew 6 74 (by kernel_rfl)
                have f75 : s 75 = .pointer (some ⟨g, k * 2, none⟩) := hnew 7 75 (by kernel_rfl)
                have f76 : s 76 = .pointer (some ⟨g, k * 2, none⟩) := hnew 8 76 (by kernel_rfl)
                have f77 : s 77 = .slice y.1.1 y.1.2.1 y.1.2.2 := hnew 9 77 (by kernel_rfl)
                have f78 : s 78 = .slice (some ⟨b, off, none⟩) n cap := hnew 10 78 (by kernel_rfl)
                have f79 : s 79 = .int .i64 (i : Int) := hnew 11 79 (by kernel_rfl)
                have f80 : s 80 = .pointer (some ⟨b, off + i * 2, none⟩) := hnew 12 80 (by kernel_rfl)
                have f81 : s 81 = .pointer (some ⟨b, off + i * 2, none⟩) := hnew 13 81 (by kernel_rfl)
                have f82 : s 82 = .slice x.1.1 x.1.2.1 x.1.2.2 := hnew 14 82 (by kernel_rfl)
                have f83 : s 83 = .bool sm := hnew 15 83 (by kernel_rfl)
                have f84 : s 84 = .bool sm := hnew 16 84 (by kernel_rfl)
                change Exit.then _ _ .normal ⟨#[s 0, s 1, s 2, s 3, s 4, s 5, s 6, s 7, s 8, s 9, s 10, s 11, s 12, s 13, s 14, s 15, s 16, s 17, s 18, s 19, s 20, s 21, s 22, s 23, s 24, s 25, s 26, s 27, s 28, s 29, s 30, s 31, s 32, s 33, s 34, s 35, s 36, s 37, s 38, s 39, s 40, s 41, s 42, s 43, s 44, s 45, s 46, s 47, s 48, s 49, s 50, s 51, s 52, s 53, s 54, s 55, s 56, s 57, s 58, s 59, s 60, s 61, s 62, s 63, s 64, s 65, s 66, s 67, s 68, s 69, s 70, s 71, s 72, s 73, s 74, s 75, s 76, s 77, s 78, s 79, s 80, s 81, s 82, s 83, s 84, s 85, s 86, s 87, s 88, s 89, s 90, s 91, s 92, s 93, s 94, s 95, s 96, s 97, s 98, s 99, s 100, s 101, s 102, s 103, s 104, s 105, s 106, s 107, s 108, s 109, s 110, s 111, s 112, s 113, s 114, s 115, s 116, s 117, s 118, s 119, s 120, s 121, s 122, s 123, s 124, s 125, s 126, s 127, s 128, s 129, s 130, s 131, s 132, s 133, s 134, s 135, s 136, s 137, s 138, s 139, s 140, s 141, s 142, s 143, s 144, s 145, s 146, s 147, s 148, s 149, s 150, s 151], _⟩ _
                simp only [f0, f1, f4, f5, f6, f7, f8, f9, f10, f14, f15, f16, f17, f18, f19, f20, f21, f22, f23, f24, f25, f26, f27, f28, f29, f30, f31, f32, f33, f34, f35, f36, f37, f38, f39, f40, f41, f42, f132, f133, f134, f135, f136, f137, f138, f139, f140, f141, f142, f143, f144, f145, f146, f147, f148, f149, f150, f151, f68, f69, f70, f71, f72, f73, f74, f75, f76, f77, f78, f79, f80, f81, f82, f83, f84]
                clear hold hnew
                generalize s 2 = u2
                generalize s 3 = u3
                generalize s 11 = u11
                generalize s 12 = u12
                generalize s 13 = u13
                generalize s 43 = u43
                generalize s 44 = u44
                generalize s 45 = u45
                generalize s 46 = u46
                generalize s 47 = u47
                generalize s 48 = u48
                generalize s 49 = u49
                generalize s 50 = u50
                generalize s 51 = u51
                generalize s 52 = u52
                generalize s 53 = u53
                generalize s 54 = u54
                generalize s 55 = u55
                generalize s 56 = u56
                generalize s 57 = u57
                generalize s 58 = u58
                generalize s 59 = u59
                generalize s 60 = u60
                generalize s 61 = u61
                generalize s 62 = u62
                generalize s 63 = u63
                generalize s 64 = u64
                generalize s 65 = u65
                generalize s 66 = u66
                generalize s 67 = u67
                generalize s 85 = u85
                generalize s 86 = u86
                generalize s 87 = u87
                generalize s 88 = u88
                generalize s 89 = u89
                generalize s 90 = u90
                generalize s 91 = u91
                generalize s 92 = u92
                generalize s 93 = u93
                generalize s 94 = u94
                generalize s 95 = u95
                generalize s 96 = u96
                generalize s 97 = u97
                generalize s 98 = u98
                generalize s 99 = u99
                generalize s 100 = u100
                generalize s 101 = u101
                generalize s 102 = u102
                generalize s 103 = u103
                generalize s 104 = u104
                generalize s 105 = u105
                generalize s 106 = u106
                generalize s 107 = u107
                generalize s 108 = u108
                generalize s 109 = u109
                generalize s 110 = u110
                generalize s 111 = u111
                generalize s 112 = u112
                generalize s 113 = u113
                generalize s 114 = u114
                generalize s 115 = u115
                generalize s 116 = u116
                generalize s 117 = u117
                generalize s 118 = u118
                generalize s 119 = u119
                generalize s 120 = u120
                generalize s 121 = u121
                generalize s 122 = u122
                generalize s 123 = u123
                generalize s 124 = u124
                generalize s 125 = u125
                generalize s 126 = u126
                generalize s 127 = u127
                generalize s 128 = u128
                generalize s 129 = u129
                generalize s 130 = u130
                generalize s 131 = u131
                have HEQ := Lib.hid (HE4.out.trans hE)
                clear hE hyb y0 y1 hxb x0 x1 HSW
                obtain ⟨⟨hyb, y0, y1, hyz⟩, _⟩ := HCY.out w4 HEQ.out
                obtain ⟨⟨hxb, x0, x1⟩, HXV'⟩ := HCX.out w4 HEQ.out
                have HXV := Lib.hid HXV'
                clear HXV'
                cases sm
                · have HSLI := Lib.hid (HMS.out.ev HEQ.out).sl
                  have HGG : Hid (∀ y', (itemsOf Z1)[k]? = some y' → lessR y'.1 x.2.1 = false ∧ y'.1 ≠ x.2.1) := Lib.hid (fun y' e => by
                    rw [HYI.out] at e
                    obtain rfl := Option.some.inj e
                    refine ⟨HLE.out, fun e2 => ?_⟩
                    have h9 := HSE.out
                    rw [sameR_right HYR.out, e2, decide_eq_true rfl] at h9
                    cases h9)
                  go_upto_region 19 with fail
                  refine wp_region_slotsG hmix (fun u => Ev w4 u) (fun p _ _ => match p with | 0 => True | _ + 1 => False) [20] (fun _ _ => True) [0, 4, 5, 11, 18, 19] [[20, 21]] 20 [Empty0 62 w4.heap.size, fun v _ => v = .slice (some ⟨g, 0, none⟩) n1 c1, fun v _ => v = .int .i64 (k : Int), fun v _ => v = .slice (some ⟨g, 0, none⟩) k c1, AheadF w4.heap.size (Z1.take k), Empty0 32 w4.heap.size, fun v _ => v = .slice (some ⟨b, off, none⟩) n cap, fun v _ => v = .int .i64 (i : Int), fun v _ => v = .pointer (some ⟨b, off + i * 2, none⟩), fun v _ => v = .pointer (some ⟨b, off + i * 2, none⟩), fun v _ => v = .slice x.1.1 x.1.2.1 x.1.2.2, RowNF w4.heap.size x.2.1, fun v _ => v = .slice (some ⟨b, off, none⟩) n cap, fun v _ => v = .int .i64 (i : Int), fun v _ => v = .pointer (some ⟨b, off + i * 2, none⟩), fun v _ => v = .pointer (some ⟨b, off + i * 2 + 1, none⟩), fun v _ => v = .complex .f64 (fl (pn : Int)) (fl 0), fun v _ => v = .complex .f64 (fl (redP (pn : Int))) (fl (redQ (pn : Int))), ItNF w4.heap.size (x.2.1, redP (pn : Int), redQ (pn : Int)), OneJF w4.heap.size (x.2.1, redP (pn : Int), redQ (pn : Int)), NewJF w4.heap.size (Z1.take k) (x.2.1, redP (pn : Int), redQ (pn : Int)), NewJF w4.heap.size (Z1.take k) (x.2.1, redP (pn : Int), redQ (pn : Int))]
                    152 1 rfl (by kernel_rfl) ⟨Empty0.mono, mono_eq _, mono_eq _, mono_eq _, AheadF.mono _ _, Empty0.mono, mono_eq _, mono_eq _, mono_eq _, mono_eq _, mono_eq _, RowNF.mono _ _, mono_eq _, mono_eq _, mono_eq _, mono_eq _, mono_eq _, mono_eq _, ItNF.mono _ _, OneJF.mono _ _, NewJF.mono _ _ _, NewJF.mono _ _ _, trivial⟩ ⟨Or.inl rfl, Or.inr fun p => Or.inr fun _ _ _ _ h => h, Or.inr fun p => Or.inr fun _ _ _ _ h => h, Or.inr fun p => Or.inr fun _ _ _ _ h => h, Or.inl rfl, Or.inl rfl, Or.inr fun p => Or.inr fun _ _ _ _ h => h, Or.inr fun p => Or.inr fun _ _ _ _ h => h, Or.inr fun p => Or.inr fun _ _ _ _ h => h, Or.inr fun p => Or.inr fun _ _ _ _ h => h, Or.inr fun p => Or.inr fun _ _ _ _ h => h, Or.inl rfl, Or.inr fun p => Or.inr fun _ _ _ _ h => h, Or.inr fun p => Or.inr fun _ _ _ _ h => h, Or.inr fun p => Or.inr fun _ _ _ _ h => h, Or.inr fun p => Or.inr fun _ _ _ _ h => h, Or.inr fun p => Or.inr fun _ _ _ _ h => h, Or.inr fun p => Or.inr fun _ _ _ _ h => h, Or.inl rfl, Or.inl rfl, Or.inr fun p => match p with | 0 => Or.inl rfl | _ + 1 => Or.inr fun _ _ _ hb h => hb.elim, Or.inr fun p => match p with | 0 => Or.inl rfl | _ + 1 => Or.inr fun _ _ _ hb h => hb.elim, trivial⟩ (by kernel_rfl) rfl (by kernel_rfl) (fun _ _ _ _ _ => trivial) (fun u u' hE h => h.trans hE) (Ev.refl _) (trivial) (by kernel_rfl) (fun _ _ _ => True) [] (by kernel_rfl) (fun _ _ _ _ _ _ _ _ _ _ => trivial) (fun _ _ => trivial) ?_ ?_ ?_ ?_
                  · refine opc_cons 0 ?_ (opc_cons 1 ?_ (opc_cons 2 ?_ (opc_cons 3 ?_ (opc_cons 4 ?_ (opc_cons 5 ?_ (opc_cons 6 ?_ (opc_cons 7 ?_ (opc_cons 8 ?_ (opc_cons 9 ?_ (opc_cons 10 ?_ (opc_cons 11 ?_ (opc_cons 12 ?_ (opc_cons 13 ?_ (opc_cons 14 ?_ (opc_cons 15 ?_ (opc_cons 16 ?_ (opc_cons 17 ?_ (opc_cons 18 ?_ (opc_cons 19 ?_ (opc_turn 20 (by decide) (opc_cons 21 ?_ (opc_nil 22))))))))))))))))))))))
                    · refine opg_makes fun a wq c => ⟨(wanted_plain rfl), _, _, run_build_set0 rfl wq, Ev.alloc _ _, c.inv.trans (Ev.alloc wq _), Empty0.new c.inv.size⟩
                    · refine opg_value fun a wq c => ⟨(wanted_plain rfl), _, run_move _ rfl wq, (c.was 8 (by kernel_rfl) rfl)⟩
                    · refine opg_value fun a wq c => ⟨(wanted_plain rfl), _, run_move _ rfl wq, (c.was 10 (by kernel_rfl) rfl)⟩
                    · refine opg_value fun a wq c => ⟨(wanted_plain rfl), _, run_to_set k rfl ((c.new 1 107 (by kernel_rfl) (by kernel_rfl) (by kernel_rfl)) : a.eval (.tmp 107) = .slice (some ⟨g, 0, none⟩) n1 c1) (c.new 2 108 (by kernel_rfl) (by kernel_rfl) (by kernel_rfl)) hkc wq, rfl⟩
                    · refine opg_makes fun a wq c => ?_
                      have h0_ := (c.got 0 106 (by kernel_rfl) (by kernel_rfl) (by kernel_rfl) rfl : Empty0 _ _ _ _)
                      have e_1 : a.eval (.tmp 109) = .slice (some ⟨g, 0, none⟩) k c1 := (c.new 3 109 (by kernel_rfl) (by kernel_rfl) (by kernel_rfl))
                      obtain ⟨v_, w_, hr_, h1_, hp_, h2_⟩ := run_append_owP0 (P := Tryz.prog) PvI encJ 41 41 Tryz.underlying41 Tryz.infoItemJ rfl h0_ (some ⟨g, 0, none⟩) k c1 (Z1.take k) ((HSLI.out.ev c.inv).to k hkn) (by rw [List.length_take]; omega) (by rw [List.length_take]; omega) c.inv.size pvi_zero (fun z _ => pvi_j z)
                      refine ⟨(wanted_plain rfl), v_, w_, ?_, h2_, c.inv.trans h2_, h1_, hp_⟩
                      obtain ⟨g_, e_0, _⟩ := h0_
                      unfold execOp
                      rw [e_0] at hr_
                      simp only [resolve, invoke, builtin, Sem.run_bind, Sem.run_pure, Result.andThen_ok, List.map_toArray, List.map_cons, List.map_nil, e_0, e_1, hr_]
                    · refine opg_makes fun a wq c => ⟨(wanted_plain rfl), _, _, run_build_row0 rfl wq, Ev.alloc _ _, c.inv.trans (Ev.alloc wq _), Empty0.new c.inv.size⟩
                    · refine opg_value fun a wq c => ⟨(wanted_plain rfl), _, run_move _ rfl wq, (c.was 0 (by kernel_rfl) rfl)⟩
                    · refine opg_value fun a wq c => ⟨(wanted_plain rfl), _, run_move _ rfl wq, (c.was 9 (by kernel_rfl) rfl)⟩
                    · refine opg_value fun a wq c => ⟨(wanted_plain rfl), .pointer (some ⟨b, off + i * 2, none⟩), ?_, rfl⟩
                      have e112 : a.eval (.tmp 112) = .slice (some ⟨b, off, none⟩) n cap := (c.new 6 112 (by kernel_rfl) (by kernel_rfl) (by kernel_rfl))
                      have e113 : a.eval (.tmp 113) = .int .i64 (i : Int) := (c.new 7 113 (by kernel_rfl) (by kernel_rfl) (by kernel_rfl))
                      generalize a.eval = ρ at e112 e113 ⊢
                      simp [execOp, e112, e113, go_sem, i1, i2]
                    · refine opg_value fun a wq c => ⟨(wanted_plain rfl), .pointer (some ⟨b, off + i * 2, none⟩), ?_, rfl⟩
                      have e114 : a.eval (.tmp 114) = .pointer (some ⟨b, off + i * 2, none⟩) := (c.new 8 114 (by kernel_rfl) (by kernel_rfl) (by kernel_rfl))
                      generalize a.eval = ρ at e114 ⊢
                      simp [execOp, e114, go_sem]
                    · refine opg_value fun a wq c => ⟨(wanted_plain rfl), .slice x.1.1 x.1.2.1 x.1.2.2, ?_, rfl⟩
                      have e_0 : a.eval (.tmp 115) = .pointer (some ⟨b, off + i * 2, none⟩) := (c.new 9 115 (by kernel_rfl) (by kernel_rfl) (by kernel_rfl))
                      have hc := (c.inv.cell (p := ⟨_, _, none⟩) hxb).trans x0
                      generalize a.eval = ρ at e_0 ⊢
                      simp [execOp, e_0, hc, go_sem]
                    · refine opg_makes fun a wq c => ?_
                      have h0_ := (c.got 5 111 (by kernel_rfl) (by kernel_rfl) (by kernel_rfl) rfl : Empty0 _ _ _ _)
                      have e_1 : a.eval (.tmp 116) = .slice x.1.1 x.1.2.1 x.1.2.2 := (c.new 10 116 (by kernel_rfl) (by kernel_rfl) (by kernel_rfl))
                      obtain ⟨v_, w_, hr_, h1_, h2_⟩ := run_append_ow0 (P := Tryz.prog) encVv 23 23 Tryz.underlying23 Tryz.infoValueM rfl h0_ x.1.1 x.1.2.1 x.1.2.2 x.2.1 (HXV.out.ev c.inv) HXL.out.1 HXL.out.2 c.inv.size
                      obtain ⟨A5, c5, rfl, hS5, hA5⟩ := h1_.form encVv
                      refine ⟨(wanted_plain rfl), _, w_, ?_, h2_, c.inv.trans h2_, A5, c5, rfl, hS5, fun ad ea => ⟨(hA5 ad ea).2.1, (hA5 ad ea).2.2.1⟩⟩
                      obtain ⟨g_, e_0, _⟩ := h0_
                      unfold execOp
                      rw [e_0] at hr_
                      simp only [resolve, invoke, builtin, Sem.run_bind, Sem.run_pure, Result.andThen_ok, List.map_toArray, List.map_cons, List.map_nil, e_0, e_1, hr_]
                    · refine opg_value fun a wq c => ⟨(wanted_plain rfl), _, run_move _ rfl wq, (c.was 0 (by kernel_rfl) rfl)⟩
                    · refine opg_value fun a wq c => ⟨(wanted_plain rfl), _, run_move _ rfl wq, (c.was 9 (by kernel_rfl) rfl)⟩
                    · refine opg_value fun a wq c => ⟨(wanted_plain rfl), .pointer (some ⟨b, off + i * 2, none⟩), ?_, rfl⟩
                      have e118 : a.eval (.tmp 118) = .slice (some ⟨b, off, none⟩) n cap := (c.new 12 118 (by kernel_rfl) (by kernel_rfl) (by kernel_rfl))
                      have e119 : a.eval (.tmp 119) = .int .i64 (i : Int) := (c.new 13 119 (by kernel_rfl) (by kernel_rfl) (by kernel_rfl))
                      generalize a.eval = ρ at e118 e119 ⊢
                      simp [execOp, e118, e119, go_sem, i1, i2]
                    · refine opg_value fun a wq c => ⟨(wanted_plain rfl), .pointer (some ⟨b, off + i * 2 + 1, none⟩), ?_, rfl⟩
                      have e120 : a.eval (.tmp 120) = .pointer (some ⟨b, off + i * 2, none⟩) := (c.new 14 120 (by kernel_rfl) (by kernel_rfl) (by kernel_rfl))
                      generalize a.eval = ρ at e120 ⊢
                      simp [execOp, e120, go_sem]
                    · refine opg_value fun a wq c => ⟨(wanted_plain rfl), .complex .f64 (fl (pn : Int)) (fl 0), ?_, rfl⟩
                      have e_0 : a.eval (.tmp 121) = .pointer (some ⟨b, off + i * 2 + 1, none⟩) := (c.new 15 121 (by kernel_rfl) (by kernel_rfl) (by kernel_rfl))
                      have hc := (c.inv.cell (p := ⟨_, _, none⟩) hxb).trans x1
                      generalize a.eval = ρ at e_0 ⊢
                      simp [execOp, e_0, hc, go_sem]
                    · refine opg_call fun a wq c => ⟨(wanted_plain rfl), 48, #[.complex .f64 (fl (pn : Int)) (fl 0)], ?_, ?_⟩
                      · rw [run_call 48 _ _ rfl (by kernel_rfl)]
                        have e_0 : a.eval (.tmp 122) = .complex .f64 (fl (pn : Int)) (fl 0) := (c.new 16 122 (by kernel_rfl) (by kernel_rfl) (by kernel_rfl))
                        simp [e_0]
                      · refine (HRD.out wq).mono ?_
                        rintro e wp ⟨rfl, rfl⟩
                        exact ⟨_, rfl, Ev.refl _, c.inv, rfl⟩
                    · refine opg_value fun a wq c => ?_
                      have e_0 : a.eval (.tmp 123) = .complex .f64 (fl (redP (pn : Int))) (fl (redQ (pn : Int))) := (c.new 17 123 (by kernel_rfl) (by kernel_rfl) (by kernel_rfl))
                      obtain ⟨A5, c5, e_1, h5, h6⟩ := (c.got 11 117 (by kernel_rfl) (by kernel_rfl) (by kernel_rfl) rfl : RowNF _ _ _ _)
                      refine ⟨(wanted_plain rfl), .agg #[.slice A5 x.2.1.length c5, .complex .f64 (fl (redP (pn : Int))) (fl (redQ (pn : Int)))], ?_, A5, c5, rfl, h5, h6⟩
                      generalize a.eval = ρ at e_0 e_1 ⊢
                      simp [execOp, e_0, e_1, go_sem]
                    · refine opg_makes fun a wq c => ?_
                      obtain ⟨A5, c5, e_0, h5, h6⟩ := (c.got 18 124 (by kernel_rfl) (by kernel_rfl) (by kernel_rfl) rfl : ItNF _ _ _ _)
                      refine ⟨(wanted_plain rfl), .slice (some ⟨wq.heap.size, 0, none⟩) 1 1, wq.alloc (.cells #[.slice A5 x.2.1.length c5, .complex .f64 (fl (redP (pn : Int))) (fl (redQ (pn : Int)))] 62), ?_, Ev.alloc _ _, c.inv.trans (Ev.alloc wq _), wq.heap.size, A5, c5, rfl, Sl.one (et := 62) encJ wq _ _ rfl, h5.ev (Ev.alloc _ _), fun ad ea => ⟨(h6 ad ea).1, Nat.lt_of_lt_of_le (h6 ad ea).2 (Ev.alloc wq _).size⟩⟩
                      simp only at e_0
                      generalize a.eval = ρ at e_0 ⊢
                      simp [execOp, e_0, go_sem]
                    · refine opg_value fun a wq c => ⟨(wanted_plain rfl), _, run_assign _ rfl wq, (c.new 20 126 (by kernel_rfl) (by kernel_rfl) (by kernel_rfl))⟩
                  · refine  sps_nil
                  · refine trn_cons 0 rfl ?_ (trn_nil 1)
                    · refine opv_makes fun a wq c st hg => ?_
                      have h0_ : AheadF w4.heap.size (Z1.take k) (a.eval (.tmp 110)) wq := (c.got 4 110 (by kernel_rfl) (by kernel_rfl) (by kernel_rfl) rfl : AheadF _ _ _ _)
                      obtain ⟨h_, A5, c5, e_1, h5, h6, h7⟩ := (c.got 19 125 (by kernel_rfl) (by kernel_rfl) (by kernel_rfl) rfl : OneJF _ _ _ _)
                      obtain ⟨v_, w_, hr_, h1_, h2_, _, _⟩ := run_append_ow (P := Tryz.prog) encJ 41 41 Tryz.underlying41 Tryz.infoItemJ rfl h0_.1 (some ⟨h_, 0, none⟩) 1 1 _ h5 (by rw [List.length_take]; simp; omega) (by rw [List.length_take]; simp; omega) c.inv.size
                      have hp_ := pure_of_append (P := Tryz.prog) PvI encJ 41 41 Tryz.underlying41 Tryz.infoItemJ rfl h0_.1 h_ _ h5 (by rw [List.length_take]; omega) (by rw [List.length_take]; omega) pvi_zero (pvi_j _) h0_.2 hr_
                      refine ⟨wanted_plain rfl, v_, w_, ?_, trivial, ?_, trivial, A5, c5, h1_, hp_, vs_past h0_.1 h0_.2 h2_ h6, fun ad ea => ⟨(h7 ad ea).1, Nat.lt_of_lt_of_le (h7 ad ea).2 h2_.size⟩⟩
                      · exact exec_append (P := Tryz.prog) (o := ⟨some 126, _, _, _, _, _⟩) (T := 41) rfl rfl e_1 hr_
                      · exact ((But.of_ev c.inv).then h2_).ev fun g_ hg_ => (h0_.1.lt (mem_foot.1 hg_)).1
                  intro so w7 hI hold hnew hst
                  have hnj : NewJF w4.heap.size (Z1.take k) (x.2.1, redP (pn : Int), redQ (pn : Int)) (so 13) w7 := hnew 21 13 (by kernel_rfl) (by kernel_rfl)
                  have f0 : so 0 = .slice (some ⟨b, off, none⟩) n cap := hold 0 (by kernel_rfl)
                  have f1 : so 1 = undef := hold 1 (by kernel_rfl)
                  have f4 : so 4 = .int .i64 (n : Int) := hold 4 (by kernel_rfl)
                  have f5 : so 5 = u5 := hold 5 (by kernel_rfl)
                  have f6 : so 6 = u6 := hold 6 (by kernel_rfl)
                  have f7 : so 7 = u7 := hold 7 (by kernel_rfl)
                  have f8 : so 8 = .slice (some ⟨g, 0, none⟩) n1 c1 := hold 8 (by kernel_rfl)
                  have f9 : so 9 = .int .i64 (i : Int) := hold 9 (by kernel_rfl)
                  have f10 : so 10 = .int .i64 (k : Int) := hold 10 (by kernel_rfl)
                  have f14 : so 14 = undef := hold 14 (by kernel_rfl)
                  have f15 : so 15 = undef := hold 15 (by kernel_rfl)
                  have f16 : so 16 = .int .i64 (n : Int) := hold 16 (by kernel_rfl)
                  have f17 : so 17 = .slice (some ⟨b, off, none⟩) n cap := hold 17 (by kernel_rfl)
                  have f18 : so 18 = .int .i64 (n : Int) := hold 18 (by kernel_rfl)
                  have f19 : so 19 = .bool false := hold 19 (by kernel_rfl)
                  have f20 : so 20 = u20 := hold 20 (by kernel_rfl)
                  have f21 : so 21 = u21 := hold 21 (by kernel_rfl)
                  have f22 : so 22 = u22 := hold 22 (by kernel_rfl)
                  have f23 : so 23 = u23 := hold 23 (by kernel_rfl)
                  have f24 : so 24 = u24 := hold 24 (by kernel_rfl)
                  have f25 : so 25 = u25 := hold 25 (by kernel_rfl)
                  have f26 : so 26 = u26 := hold 26 (by kernel_rfl)
                  have f27 : so 27 = u27 := hold 27 (by kernel_rfl)
                  have f28 : so 28 = u28 := hold 28 (by kernel_rfl)
                  have f29 : so 29 = u29 := hold 29 (by kernel_rfl)
                  have f30 : so 30 = u30 := hold 30 (by kernel_rfl)
                  have f31 : so 31 = u31 := hold 31 (by kernel_rfl)
                  have f32 : so 32 = u32 := hold 32 (by kernel_rfl)
                  have f33 : so 33 = u33 := hold 33 (by kernel_rfl)
                  have f34 : so 34 = u34 := hold 34 (by kernel_rfl)
                  have f35 : so 35 = u35 := hold 35 (by kernel_rfl)
                  have f36 : so 36 = u36 := hold 36 (by kernel_rfl)
                  have f37 : so 37 = u37 := hold 37 (by kernel_rfl)
                  have f38 : so 38 = u38 := hold 38 (by kernel_rfl)
                  have f39 : so 39 = u39 := hold 39 (by kernel_rfl)
                  have f40 : so 40 = u40 := hold 40 (by kernel_rfl)
                  have f41 : so 41 = u41 := hold 41 (by kernel_rfl)
                  have f42 : so 42 = u42 := hold 42 (by kernel_rfl)
                  have f132 : so 132 = undef := hold 132 (by kernel_rfl)
                  have f133 : so 133 = undef := hold 133 (by kernel_rfl)
                  have f134 : so 134 = undef := hold 134 (by kernel_rfl)
                  have f135 : so 135 = undef := hold 135 (by kernel_rfl)
                  have f136 : so 136 = undef := hold 136 (by kernel_rfl)
                  have f137 : so 137 = undef := hold 137 (by kernel_rfl)
                  have f138 : so 138 = undef := hold 138 (by kernel_rfl)
                  have f139 : so 139 = undef := hold 139 (by kernel_rfl)
                  have f140 : so 140 = undef := hold 140 (by kernel_rfl)
                  have f141 : so 141 = undef := hold 141 (by kernel_rfl)
                  have f142 : so 142 = undef := hold 142 (by kernel_rfl)
                  have f143 : so 143 = undef := hold 143 (by kernel_rfl)
                  have f144 : so 144 = undef := hold 144 (by kernel_rfl)
                  have f145 : so 145 = undef := hold 145 (by kernel_rfl)
                  have f146 : so 146 = undef := hold 146 (by kernel_rfl)
                  have f147 : so 147 = undef := hold 147 (by kernel_rfl)
                  have f148 : so 148 = undef := hold 148 (by kernel_rfl)
                  have f149 : so 149 = undef := hold 149 (by kernel_rfl)
                  have f150 : so 150 = undef := hold 150 (by kernel_rfl)
                  have f151 : so 151 = undef := hold 151 (by kernel_rfl)
                  have f107 : so 107 = .slice (some ⟨g, 0, none⟩) n1 c1 := hnew 1 107 (by kernel_rfl) (by kernel_rfl)
                  have f108 : so 108 = .int .i64 (k : Int) := hnew 2 108 (by kernel_rfl) (by kernel_rfl)
                  have f109 : so 109 = .slice (some ⟨g, 0, none⟩) k c1 := hnew 3 109 (by kernel_rfl) (by kernel_rfl)
                  have f112 : so 112 = .slice (some ⟨b, off, none⟩) n cap := hnew 6 112 (by kernel_rfl) (by kernel_rfl)
                  have f113 : so 113 = .int .i64 (i : Int) := hnew 7 113 (by kernel_rfl) (by kernel_rfl)
                  have f114 : so 114 = .pointer (some ⟨b, off + i * 2, none⟩) := hnew 8 114 (by kernel_rfl) (by kernel_rfl)
                  have f115 : so 115 = .pointer (some ⟨b, off + i * 2, none⟩) := hnew 9 115 (by kernel_rfl) (by kernel_rfl)
                  have f116 : so 116 = .slice x.1.1 x.1.2.1 x.1.2.2 := hnew 10 116 (by kernel_rfl) (by kernel_rfl)
                  have f118 : so 118 = .slice (some ⟨b, off, none⟩) n cap := hnew 12 118 (by kernel_rfl) (by kernel_rfl)
                  have f119 : so 119 = .int .i64 (i : Int) := hnew 13 119 (by kernel_rfl) (by kernel_rfl)
                  have f120 : so 120 = .pointer (some ⟨b, off + i * 2, none⟩) := hnew 14 120 (by kernel_rfl) (by kernel_rfl)
                  have f121 : so 121 = .pointer (some ⟨b, off + i * 2 + 1, none⟩) := hnew 15 121 (by kernel_rfl) (by kernel_rfl)
                  have f122 : so 122 = .complex .f64 (fl (pn : Int)) (fl 0) := hnew 16 122 (by kernel_rfl) (by kernel_rfl)
                  have f123 : so 123 = .complex .f64 (fl (redP (pn : Int))) (fl (redQ (pn : Int))) := hnew 17 123 (by kernel_rfl) (by kernel_rfl)
                  change Exit.then _ _ .normal ⟨#[so 0, so 1, so 2, so 3, so 4, so 5, so 6, so 7, so 8, so 9, so 10, so 11, so 12, so 13, so 14, so 15, so 16, so 17, so 18, so 19, so 20, so 21, so 22, so 23, so 24, so 25, so 26, so 27, so 28, so 29, so 30, so 31, so 32, so 33, so 34, so 35, so 36, so 37, so 38, so 39, so 40, so 41, so 42, so 43, so 44, so 45, so 46, so 47, so 48, so 49, so 50, so 51, so 52, so 53, so 54, so 55, so 56, so 57, so 58, so 59, so 60, so 61, so 62, so 63, so 64, so 65, so 66, so 67, so 68, so 69, so 70, so 71, so 72, so 73, so 74, so 75, so 76, so 77, so 78, so 79, so 80, so 81, so 82, so 83, so 84, so 85, so 86, so 87, so 88, so 89, so 90, so 91, so 92, so 93, so 94, so 95, so 96, so 97, so 98, so 99, so 100, so 101, so 102, so 103, so 104, so 105, so 106, so 107, so 108, so 109, so 110, so 111, so 112, so 113, so 114, so 115, so 116, so 117, so 118, so 119, so 120, so 121, so 122, so 123, so 124, so 125, so 126, so 127, so 128, so 129, so 130, so 131, so 132, so 133, so 134, so 135, so 136, so 137, so 138, so 139, so 140, so 141, so 142, so 143, so 144, so 145, so 146, so 147, so 148, so 149, so 150, so 151], _⟩ _
                  simp only [f0, f1, f4, f5, f6, f7, f8, f9, f10, f14, f15, f16, f17, f18, f19, f20, f21, f22, f23, f24, f25, f26, f27, f28, f29, f30, f31, f32, f33, f34, f35, f36, f37, f38, f39, f40, f41, f42, f132, f133, f134, f135, f136, f137, f138, f139, f140, f141, f142, f143, f144, f145, f146, f147, f148, f149, f150, f151, f107, f108, f109, f112, f113, f114, f115, f116, f118, f119, f120, f121, f122, f123]
                  clear hold hnew hst
                  generalize so 2 = u2
                  generalize so 3 = u3
                  generalize so 11 = u11
                  generalize so 12 = u12
                  generalize so 43 = u43
                  generalize so 44 = u44
                  generalize so 45 = u45
                  generalize so 46 = u46
                  generalize so 47 = u47
                  generalize so 48 = u48
                  generalize so 49 = u49
                  generalize so 50 = u50
                  generalize so 51 = u51
                  generalize so 52 = u52
                  generalize so 53 = u53
                  generalize so 54 = u54
                  generalize so 55 = u55
                  generalize so 56 = u56
                  generalize so 57 = u57
                  generalize so 58 = u58
                  generalize so 59 = u59
                  generalize so 60 = u60
                  generalize so 61 = u61
                  generalize so 62 = u62
                  generalize so 63 = u63
                  generalize so 64 = u64
                  generalize so 65 = u65
                  generalize so 66 = u66
                  generalize so 67 = u67
                  generalize so 68 = u68
                  generalize so 69 = u69
                  generalize so 70 = u70
                  generalize so 71 = u71
                  generalize so 72 = u72
                  generalize so 73 = u73
                  generalize so 74 = u74
                  generalize so 75 = u75
                  generalize so 76 = u76
                  generalize so 77 = u77
                  generalize so 78 = u78
                  generalize so 79 = u79
                  generalize so 80 = u80
                  generalize so 81 = u81
                  generalize so 82 = u82
                  generalize so 83 = u83
                  generalize so 84 = u84
                  generalize so 85 = u85
                  generalize so 86 = u86
                  generalize so 87 = u87
                  generalize so 88 = u88
                  generalize so 89 = u89
                  generalize so 90 = u90
                  generalize so 91 = u91
                  generalize so 92 = u92
                  generalize so 93 = u93
                  generalize so 94 = u94
                  generalize so 95 = u95
                  generalize so 96 = u96
                  generalize so 97 = u97
                  generalize so 98 = u98
                  generalize so 99 = u99
                  generalize so 100 = u100
                  generalize so 101 = u101
                  generalize so 102 = u102
                  generalize so 103 = u103
                  generalize so 104 = u104
                  generalize so 105 = u105
                  generalize so 106 = u106
                  generalize so 107 = u107
                  generalize so 108 = u108
                  generalize so 109 = u109
                  generalize so 110 = u110
                  generalize so 111 = u111
                  generalize so 112 = u112
                  generalize so 113 = u113
                  generalize so 114 = u114
                  generalize so 115 = u115
                  generalize so 116 = u116
                  generalize so 117 = u117
                  generalize so 118 = u118
                  generalize so 119 = u119
                  generalize so 120 = u120
                  generalize so 121 = u121
                  generalize so 122 = u122
                  generalize so 123 = u123
                  generalize so 124 = u124
                  generalize so 125 = u125
                  generalize so 126 = u126
                  generalize so 127 = u127
                  generalize so 128 = u128
                  generalize so 129 = u129
                  generalize so 130 = u130
                  generalize so 131 = u131

                  obtain ⟨A5, c5, hj1, hj2, hj3, hj4⟩ := hnj
                  have hE7 : Ev w4 w7 := hI
                  clear hI
                  have HRW := Lib.hid (HMS.out.ev ((HEQ.out).trans hE7))
                  have hfr := HRW.out.sl.from_ hkn
                  have hbe : w.heap.size ≤ w7.heap.size := (HEE.out.trans (HEQ.out.trans hE7)).size
                  have hw4 : w.heap.size ≤ w4.heap.size := (HEE.out.trans HEQ.out).size
                  have hdl : (Z1.drop k).length = n1 - k := by rw [List.length_drop, HZL.out]
                  have htl : (Z1.take k).length ≤ 500000 := by rw [List.length_take]; omega
                  have HNJ : Hid (Ow 62 2 jcells w.heap.size w7 (so 13) (Z1.take k ++ [((A5, x.2.1.length, c5), (x.2.1, redP (pn : Int), redQ (pn : Int)))]) ∧ OwP PvI w7 (so 13) ∧ Vs w7 A5 x.2.1.length c5 x.2.1 ∧ ∀ ad, A5 = some ad → w.heap.size ≤ ad.block ∧ ad.block < w7.heap.size) := Lib.hid ⟨Ow.lowB (base := w4.heap.size) hj1 hw4, hj2, hj3, fun ad ea => ⟨Nat.le_trans hw4 (hj4 ad ea).1, (hj4 ad ea).2⟩⟩
                  obtain ⟨v9, w9, hr9, hA9, hP9⟩ := run_append_owP (P := Tryz.prog) PvI encJ 41 41 Tryz.underlying41 Tryz.infoItemJ rfl HNJ.out.1 (by simp) _ _ _ _ hfr (by rw [hdl, List.length_append]; simp; omega) (by rw [hdl, List.length_append]; simp; omega) hbe pvi_zero (fun z _ => pvi_j z) HNJ.out.2.1
                  have hnx := HRW.out.grown_ (x := (x.2.1, redP (pn : Int), redQ (pn : Int))) HNJ.out.1 HNJ.out.2.1 HNJ.out.2.2.1 HNJ.out.2.2.2 HXN.out hA9 hP9
                  have HE9 : Hid (Ev w w9) := Lib.hid (((But.of_ev (HEE.out.trans (HEQ.out.trans hE7))).then hA9.2.1).ev fun g_ hg_ => (HNJ.out.1.lt (mem_foot.1 hg_)).1)
                  obtain ⟨A9, c9, hv9, _⟩ := hnx.own.form encJ
                  subst hv9
                  have HNX := Lib.hid hnx
                  generalize (Z1.take k ++ (((A5, x.2.1.length, c5), (x.2.1, redP (pn : Int), redQ (pn : Int))) : J) :: Z1.drop k).length = n9 at *
                  clear hj1 hj2 hj3 hj4 hfr hbe hw4 hdl htl hA9 hP9 hE7 HRW hnx HNJ
                  generalize so 13 = v13 at *
                  simp only [fromS, i6, if_false, Option.map_some, Addr.add_lit, Nat.zero_add] at hr9
                  go_wp2_with (first
                    | (at_builtin; refine Lib.wpList_append_run _ rfl _ _ _ _ rfl _ _ rfl rfl _ _ hr9 ?_))
                  go_roundw
                  case rel => exact ⟨A9, n9, c9, i + 1, _, rfl, by go_num, by omega, HNX, Lib.hid ⟨by
                    rw [items_new]
                    have h9 := (mk_new HPS.out.1 (by omega) (by rw [itemsOf_length, HZL.out]; exact hkn) HAX.out HLL.out HGG.out).1
                    rw [HAX.out.net, HPN.out] at h9
                    exact ⟨h9.z.more (by omega), h9.nn⟩, fun f => by
                    rw [items_new]
                    have h9 := (mk_new HPS.out.1 (by omega) (by rw [itemsOf_length, HZL.out]; exact hkn) HAX.out HLL.out HGG.out).2 f
                    rw [HAX.out.net, HPN.out] at h9
                    rw [h9, HPS.out.2 f, HTK.out, netS_append, netS_cons, netS_nil, HAX.out.net, HPN.out]
                    omega⟩, HE9⟩
                  case measure => simp [intOf]; omega
                · have heq : y.2.1 = x.2.1 := by
                    have h9 := HSE.out
                    rw [sameR_right HYR.out] at h9
                    exact of_decide_eq_true h9
                  obtain ⟨nn, hnn⟩ : ∃ nn : Int, nn = netI y.2 + netI x.2 := ⟨_, rfl⟩
                  obtain ⟨m1, m2, m3, m4, _, _⟩ := mk_same HPS.out.1 (by omega) HYI.out heq HAX.out nn hnn
                  have HM1 := Lib.hid m1
                  have HM2 := Lib.hid m2
                  have HAD : Hid (∀ w1, Calls Tryz.prog 47 #[.complex .f64 (fl (yn : Int)) (fl 0), .complex .f64 (fl (pn : Int)) (fl 0)] w1 fun e w' => e = .returned (.tuple #[.complex .f64 (fl (redP nn)) (fl (redQ nn)), .bool true]) ∧ w1 = w') := Lib.hid (fun w1 => rf3_add yn 0 pn 0 HYB.out.2 (by omega) (by omega) (by omega) nn (by
                    rw [hnn, HAX.out.net, HPN.out]
                    unfold netI
                    rw [HYN.out, HYQ.out]
                    omega) m3 m4 w1)
                  clear heq hnn m1 m2 m3 m4
                  go_upto_region 15 with fail
                  refine wp_region_slots hmix [fun v _ => v = .slice (some ⟨g, 0, none⟩) n1 c1, fun v _ => v = .int .i64 (k : Int), fun v _ => v = .pointer (some ⟨g, k * 2, none⟩), fun v _ => v = .pointer (some ⟨g, k * 2 + 1, none⟩), fun v _ => v = .complex .f64 (fl (yn : Int)) (fl 0), fun v _ => v = .slice (some ⟨b, off, none⟩) n cap, fun v _ => v = .int .i64 (i : Int), fun v _ => v = .pointer (some ⟨b, off + i * 2, none⟩), fun v _ => v = .pointer (some ⟨b, off + i * 2 + 1, none⟩), fun v _ => v = .complex .f64 (fl (pn : Int)) (fl 0), fun v _ => v = .tuple #[.complex .f64 (fl (redP nn)) (fl (redQ nn)), .bool true], fun v _ => v = .tuple #[.complex .f64 (fl (redP nn)) (fl (redQ nn)), .bool true], fun v _ => v = .complex .f64 (fl (redP nn)) (fl (redQ nn)), fun v _ => v = .bool true, fun v _ => v = .complex .f64 (fl (redP nn)) (fl (redQ nn)), fun v _ => v = .bool true]
                    152 rfl (by kernel_rfl) ⟨mono_eq _, mono_eq _, mono_eq _, mono_eq _, mono_eq _, mono_eq _, mono_eq _, mono_eq _, mono_eq _, mono_eq _, mono_eq _, mono_eq _, mono_eq _, mono_eq _, mono_eq _, mono_eq _, trivial⟩ ?_ ?_
                  · refine ops_cons 0 ?_ (ops_cons 1 ?_ (ops_cons 2 ?_ (ops_cons 3 ?_ (ops_cons 4 ?_ (ops_cons 5 ?_ (ops_cons 6 ?_ (ops_cons 7 ?_ (ops_cons 8 ?_ (ops_cons 9 ?_ (ops_cons 10 ?_ (ops_cons 11 ?_ (ops_cons 12 ?_ (ops_cons 13 ?_ (ops_cons 14 ?_ (ops_cons 15 ?_ (ops_nil 16))))))))))))))))
                    · refine op_value fun a wq c => ⟨(wanted_plain rfl), _, run_move _ rfl wq, (c.was 8 (by kernel_rfl) rfl)⟩
                    · refine op_value fun a wq c => ⟨(wanted_plain rfl), _, run_move _ rfl wq, (c.was 10 (by kernel_rfl) rfl)⟩
                    · refine op_value fun a wq c => ⟨(wanted_plain rfl), .pointer (some ⟨g, k * 2, none⟩), ?_, rfl⟩
                      have e86 : a.eval (.tmp 86) = .slice (some ⟨g, 0, none⟩) n1 c1 := (c.new 0 86 (by kernel_rfl) (by kernel_rfl))
                      have e87 : a.eval (.tmp 87) = .int .i64 (k : Int) := (c.new 1 87 (by kernel_rfl) (by kernel_rfl))
                      generalize a.eval = ρ at e86 e87 ⊢
                      simp [execOp, e86, e87, go_sem, j1, j2]
                    · refine op_value fun a wq c => ⟨(wanted_plain rfl), .pointer (some ⟨g, k * 2 + 1, none⟩), ?_, rfl⟩
                      have e88 : a.eval (.tmp 88) = .pointer (some ⟨g, k * 2, none⟩) := (c.new 2 88 (by kernel_rfl) (by kernel_rfl))
                      generalize a.eval = ρ at e88 ⊢
                      simp [execOp, e88, go_sem]
                    · refine op_value fun a wq c => ⟨(wanted_plain rfl), .complex .f64 (fl (yn : Int)) (fl 0), ?_, rfl⟩
                      have e89 : a.eval (.tmp 89) = .pointer (some ⟨g, k * 2 + 1, none⟩) := (c.new 3 89 (by kernel_rfl) (by kernel_rfl))
                      have hc := (c.ev.cell (p := ⟨g, k * 2 + 1, none⟩) hyb).trans y1
                      generalize a.eval = ρ at e89 ⊢
                      simp [execOp, e89, hc, go_sem]
                    · refine op_value fun a wq c => ⟨(wanted_plain rfl), _, run_move _ rfl wq, (c.was 0 (by kernel_rfl) rfl)⟩
                    · refine op_value fun a wq c => ⟨(wanted_plain rfl), _, run_move _ rfl wq, (c.was 9 (by kernel_rfl) rfl)⟩
                    · refine op_value fun a wq c => ⟨(wanted_plain rfl), .pointer (some ⟨b, off + i * 2, none⟩), ?_, rfl⟩
                      have e91 : a.eval (.tmp 91) = .slice (some ⟨b, off, none⟩) n cap := (c.new 5 91 (by kernel_rfl) (by kernel_rfl))
                      have e92 : a.eval (.tmp 92) = .int .i64 (i : Int) := (c.new 6 92 (by kernel_rfl) (by kernel_rfl))
                      generalize a.eval = ρ at e91 e92 ⊢
                      simp [execOp, e91, e92, go_sem, i1, i2]
                    · refine op_value fun a wq c => ⟨(wanted_plain rfl), .pointer (some ⟨b, off + i * 2 + 1, none⟩), ?_, rfl⟩
                      have e93 : a.eval (.tmp 93) = .pointer (some ⟨b, off + i * 2, none⟩) := (c.new 7 93 (by kernel_rfl) (by kernel_rfl))
                      generalize a.eval = ρ at e93 ⊢
                      simp [execOp, e93, go_sem]
                    · refine op_value fun a wq c => ⟨(wanted_plain rfl), .complex .f64 (fl (pn : Int)) (fl 0), ?_, rfl⟩
                      have e94 : a.eval (.tmp 94) = .pointer (some ⟨b, off + i * 2 + 1, none⟩) := (c.new 8 94 (by kernel_rfl) (by kernel_rfl))
                      have hc := (c.ev.cell (p := ⟨b, off + i * 2 + 1, none⟩) hxb).trans x1
                      generalize a.eval = ρ at e94 ⊢
                      simp [execOp, e94, hc, go_sem]
                    · refine op_call fun a wq c => ⟨(wanted_plain rfl), 47, #[.complex .f64 (fl (yn : Int)) (fl 0), .complex .f64 (fl (pn : Int)) (fl 0)], ?_, ?_⟩
                      · rw [run_call 47 _ _ rfl (by kernel_rfl)]
                        have e90 : a.eval (.tmp 90) = .complex .f64 (fl (yn : Int)) (fl 0) := (c.new 4 90 (by kernel_rfl) (by kernel_rfl))
                        have e95 : a.eval (.tmp 95) = .complex .f64 (fl (pn : Int)) (fl 0) := (c.new 9 95 (by kernel_rfl) (by kernel_rfl))
                        simp [e90, e95]
                      · refine (HAD.out _).mono ?_
                        rintro e wp ⟨rfl, rfl⟩
                        exact ⟨_, rfl, Ev.refl _, rfl⟩
                    · refine op_value fun a wq c => ⟨(wanted_plain rfl), _, run_move _ rfl wq, (c.new 10 96 (by kernel_rfl) (by kernel_rfl))⟩
                    · refine op_value fun a wq c => ⟨(wanted_plain rfl), .complex .f64 (fl (redP nn)) (fl (redQ nn)), ?_, rfl⟩
                      have e85 : a.eval (.tmp 85) = .tuple #[.complex .f64 (fl (redP nn)) (fl (redQ nn)), .bool true] := (c.new 11 85 (by kernel_rfl) (by kernel_rfl))
                      generalize a.eval = ρ at e85 ⊢
                      simp [execOp, e85, go_sem]
                    · refine op_value fun a wq c => ⟨(wanted_plain rfl), .bool true, ?_, rfl⟩
                      have e85 : a.eval (.tmp 85) = .tuple #[.complex .f64 (fl (redP nn)) (fl (redQ nn)), .bool true] := (c.new 11 85 (by kernel_rfl) (by kernel_rfl))
                      generalize a.eval = ρ at e85 ⊢
                      simp [execOp, e85, go_sem]
                    · refine op_value fun a wq c => ⟨(wanted_plain rfl), _, run_assign _ rfl wq, (c.new 12 97 (by kernel_rfl) (by kernel_rfl))⟩
                    · refine op_value fun a wq c => ⟨(wanted_plain rfl), _, run_assign _ rfl wq, (c.new 13 98 (by kernel_rfl) (by kernel_rfl))⟩
                  intro s w5 hE hold hnew
                  have f0 : s 0 = .slice (some ⟨b, off, none⟩) n cap := hold 0 (by kernel_rfl)
                  have f1 : s 1 = undef := hold 1 (by kernel_rfl)
                  have f4 : s 4 = .int .i64 (n : Int) := hold 4 (by kernel_rfl)
                  have f5 : s 5 = u5 := hold 5 (by kernel_rfl)
                  have f6 : s 6 = u6 := hold 6 (by kernel_rfl)
                  have f7 : s 7 = u7 := hold 7 (by kernel_rfl)
                  have f8 : s 8 = .slice (some ⟨g, 0, none⟩) n1 c1 := hold 8 (by kernel_rfl)
                  have f9 : s 9 = .int .i64 (i : Int) := hold 9 (by kernel_rfl)
                  have f10 : s 10 = .int .i64 (k : Int) := hold 10 (by kernel_rfl)
                  have f14 : s 14 = undef := hold 14 (by kernel_rfl)
                  have f15 : s 15 = undef := hold 15 (by kernel_rfl)
                  have f16 : s 16 = .int .i64 (n : Int) := hold 16 (by kernel_rfl)
                  have f17 : s 17 = .slice (some ⟨b, off, none⟩) n cap := hold 17 (by kernel_rfl)
                  have f18 : s 18 = .int .i64 (n : Int) := hold 18 (by kernel_rfl)
                  have f19 : s 19 = .bool false := hold 19 (by kernel_rfl)
                  have f20 : s 20 = u20 := hold 20 (by kernel_rfl)
                  have f21 : s 21 = u21 := hold 21 (by kernel_rfl)
                  have f22 : s 22 = u22 := hold 22 (by kernel_rfl)
                  have f23 : s 23 = u23 := hold 23 (by kernel_rfl)
                  have f24 : s 24 = u24 := hold 24 (by kernel_rfl)
                  have f25 : s 25 = u25 := hold 25 (by kernel_rfl)
                  have f26 : s 26 = u26 := hold 26 (by kernel_rfl)
                  have f27 : s 27 = u27 := hold 27 (by kernel_rfl)
                  have f28 : s 28 = u28 := hold 28 (by kernel_rfl)
                  have f29 : s 29 = u29 := hold 29 (by kernel_rfl)
                  have f30 : s 30 = u30 := hold 30 (by kernel_rfl)
                  have f31 : s 31 = u31 := hold 31 (by kernel_rfl)
                  have f32 : s 32 = u32 := hold 32 (by kernel_rfl)
                  have f33 : s 33 = u33 := hold 33 (by kernel_rfl)
                  have f34 : s 34 = u34 := hold 34 (by kernel_rfl)
                  have f35 : s 35 = u35 := hold 35 (by kernel_rfl)
                  have f36 : s 36 = u36 := hold 36 (by kernel_rfl)
                  have f37 : s 37 = u37 := hold 37 (by kernel_rfl)
                  have f38 : s 38 = u38 := hold 38 (by kernel_rfl)
                  have f39 : s 39 = u39 := hold 39 (by kernel_rfl)
                  have f40 : s 40 = u40 := hold 40 (by kernel_rfl)
                  have f41 : s 41 = u41 := hold 41 (by kernel_rfl)
                  have f42 : s 42 = u42 := hold 42 (by kernel_rfl)
                  have f132 : s 132 = undef := hold 132 (by kernel_rfl)
                  have f133 : s 133 = undef := hold 133 (by kernel_rfl)
                  have f134 : s 134 = undef := hold 134 (by kernel_rfl)
                  have f135 : s 135 = undef := hold 135 (by kernel_rfl)
                  have f136 : s 136 = undef := hold 136 (by kernel_rfl)
                  have f137 : s 137 = undef := hold 137 (by kernel_rfl)
                  have f138 : s 138 = undef := hold 138 (by kernel_rfl)
                  have f139 : s 139 = undef := hold 139 (by kernel_rfl)
                  have f140 : s 140 = undef := hold 140 (by kernel_rfl)
                  have f141 : s 141 = undef := hold 141 (by kernel_rfl)
                  have f142 : s 142 = undef := hold 142 (by kernel_rfl)
                  have f143 : s 143 = undef := hold 143 (by kernel_rfl)
                  have f144 : s 144 = undef := hold 144 (by kernel_rfl)
                  have f145 : s 145 = undef := hold 145 (by kernel_rfl)
                  have f146 : s 146 = undef := hold 146 (by kernel_rfl)
                  have f147 : s 147 = undef := hold 147 (by kernel_rfl)
                  have f148 : s 148 = undef := hold 148 (by kernel_rfl)
                  have f149 : s 149 = undef := hold 149 (by kernel_rfl)
                  have f150 : s 150 = undef := hold 150 (by kernel_rfl)
                  have f151 : s 151 = undef := hold 151 (by kernel_rfl)
                  have f11 : s 11 = .complex .f64 (fl (redP nn)) (fl (redQ nn)) := hnew 14 11 (by kernel_rfl)
                  have f12 : s 12 = .bool true := hnew 15 12 (by kernel_rfl)
                  have f85 : s 85 = .tuple #[.complex .f64 (fl (redP nn)) (fl (redQ nn)), .bool true] := hnew 11 85 (by kernel_rfl)
                  have f86 : s 86 = .slice (some ⟨g, 0, none⟩) n1 c1 := hnew 0 86 (by kernel_rfl)
                  have f87 : s 87 = .int .i64 (k : Int) := hnew 1 87 (by kernel_rfl)
                  have f88 : s 88 = .pointer (some ⟨g, k * 2, none⟩) := hnew 2 88 (by kernel_rfl)
                  have f89 : s 89 = .pointer (some ⟨g, k * 2 + 1, none⟩) := hnew 3 89 (by kernel_rfl)
                  have f90 : s 90 = .complex .f64 (fl (yn : Int)) (fl 0) := hnew 4 90 (by kernel_rfl)
                  have f91 : s 91 = .slice (some ⟨b, off, none⟩) n cap := hnew 5 91 (by kernel_rfl)
                  have f92 : s 92 = .int .i64 (i : Int) := hnew 6 92 (by kernel_rfl)
                  have f93 : s 93 = .pointer (some ⟨b, off + i * 2, none⟩) := hnew 7 93 (by kernel_rfl)
                  have f94 : s 94 = .pointer (some ⟨b, off + i * 2 + 1, none⟩) := hnew 8 94 (by kernel_rfl)
                  have f95 : s 95 = .complex .f64 (fl (pn : Int)) (fl 0) := hnew 9 95 (by kernel_rfl)
                  have f96 : s 96 = .tuple #[.complex .f64 (fl (redP nn)) (fl (redQ nn)), .bool true] := hnew 10 96 (by kernel_rfl)
                  have f97 : s 97 = .complex .f64 (fl (redP nn)) (fl (redQ nn)) := hnew 12 97 (by kernel_rfl)
                  have f98 : s 98 = .bool true := hnew 13 98 (by kernel_rfl)
                  change Exit.then _ _ .normal ⟨#[s 0, s 1, s 2, s 3, s 4, s 5, s 6, s 7, s 8, s 9, s 10, s 11, s 12, s 13, s 14, s 15, s 16, s 17, s 18, s 19, s 20, s 21, s 22, s 23, s 24, s 25, s 26, s 27, s 28, s 29, s 30, s 31, s 32, s 33, s 34, s 35, s 36, s 37, s 38, s 39, s 40, s 41, s 42, s 43, s 44, s 45, s 46, s 47, s 48, s 49, s 50, s 51, s 52, s 53, s 54, s 55, s 56, s 57, s 58, s 59, s 60, s 61, s 62, s 63, s 64, s 65, s 66, s 67, s 68, s 69, s 70, s 71, s 72, s 73, s 74, s 75, s 76, s 77, s 78, s 79, s 80, s 81, s 82, s 83, s 84, s 85, s 86, s 87, s 88, s 89, s 90, s 91, s 92, s 93, s 94, s 95, s 96, s 97, s 98, s 99, s 100, s 101, s 102, s 103, s 104, s 105, s 106, s 107, s 108, s 109, s 110, s 111, s 112, s 113, s 114, s 115, s 116, s 117, s 118, s 119, s 120, s 121, s 122, s 123, s 124, s 125, s 126, s 127, s 128, s 129, s 130, s 131, s 132, s 133, s 134, s 135, s 136, s 137, s 138, s 139, s 140, s 141, s 142, s 143, s 144, s 145, s 146, s 147, s 148, s 149, s 150, s 151], _⟩ _
                  simp only [f0, f1, f4, f5, f6, f7, f8, f9, f10, f14, f15, f16, f17, f18, f19, f20, f21, f22, f23, f24, f25, f26, f27, f28, f29, f30, f31, f32, f33, f34, f35, f36, f37, f38, f39, f40, f41, f42, f132, f133, f134, f135, f136, f137, f138, f139, f140, f141, f142, f143, f144, f145, f146, f147, f148, f149, f150, f151, f11, f12, f85, f86, f87, f88, f89, f90, f91, f92, f93, f94, f95, f96, f97, f98]
                  clear hold hnew
                  generalize s 2 = u2
                  generalize s 3 = u3
                  generalize s 13 = u13
                  generalize s 43 = u43
                  generalize s 44 = u44
                  generalize s 45 = u45
                  generalize s 46 = u46
                  generalize s 47 = u47
                  generalize s 48 = u48
                  generalize s 49 = u49
                  generalize s 50 = u50
                  generalize s 51 = u51
                  generalize s 52 = u52
                  generalize s 53 = u53
                  generalize s 54 = u54
                  generalize s 55 = u55
                  generalize s 56 = u56
                  generalize s 57 = u57
                  generalize s 58 = u58
                  generalize s 59 = u59
                  generalize s 60 = u60
                  generalize s 61 = u61
                  generalize s 62 = u62
                  generalize s 63 = u63
                  generalize s 64 = u64
                  generalize s 65 = u65
                  generalize s 66 = u66
                  generalize s 67 = u67
                  generalize s 68 = u68
                  generalize s 69 = u69
                  generalize s 70 = u70
                  generalize s 71 = u71
                  generalize s 72 = u72
                  generalize s 73 = u73
                  generalize s 74 = u74
                  generalize s 75 = u75
                  generalize s 76 = u76
                  generalize s 77 = u77
                  generalize s 78 = u78
                  generalize s 79 = u79
                  generalize s 80 = u80
                  generalize s 81 = u81
                  generalize s 82 = u82
                  generalize s 83 = u83
                  generalize s 84 = u84
                  generalize s 99 = u99
                  generalize s 100 = u100
                  generalize s 101 = u101
                  generalize s 102 = u102
                  generalize s 103 = u103
                  generalize s 104 = u104
                  generalize s 105 = u105
                  generalize s 106 = u106
                  generalize s 107 = u107
                  generalize s 108 = u108
                  generalize s 109 = u109
                  generalize s 110 = u110
                  generalize s 111 = u111
                  generalize s 112 = u112
                  generalize s 113 = u113
                  generalize s 114 = u114
                  generalize s 115 = u115
                  generalize s 116 = u116
                  generalize s 117 = u117
                  generalize s 118 = u118
                  generalize s 119 = u119
                  generalize s 120 = u120
                  generalize s 121 = u121
                  generalize s 122 = u122
                  generalize s 123 = u123
                  generalize s 124 = u124
                  generalize s 125 = u125
                  generalize s 126 = u126
                  generalize s 127 = u127
                  generalize s 128 = u128
                  generalize s 129 = u129
                  generalize s 130 = u130
                  generalize s 131 = u131
                  have HE5 := Lib.hid (HEQ.out.trans hE)
                  clear hE hyb y0 y1 hxb x0 x1 hyz
                  obtain ⟨⟨hyb, y0, y1, hyz⟩, _⟩ := HCY.out w5 HE5.out
                  have hyf := hyz (k * 2 + 1)
                  have HTL := Lib.hid ((HMS.out.ev HE5.out).tally HY.out (redP nn) (redQ nn))
                  have HE6 := Lib.hid (((But.of_ev (K := [g]) (HEE.out.trans HE5.out)).then HTL.out.2).ev fun z hz => by simp at hz; rw [hz]; exact ((HMS.out.high g (by unfold foot; simp [Value.ownBlock]))).1)
                  clear hyz
                  go_wp2
                  go_roundw
                  case rel => exact ⟨some ⟨g, 0, none⟩, n1, c1, i + 1, _, rfl, by go_num, by omega, Lib.hid HTL.out.1, Lib.hid ⟨by
                    rw [items_set]
                    have h9 := HM1.out
                    have h8 : y.2.1 = x.2.1 := by
                      have h7 := HSE.out
                      rw [sameR_right HYR.out] at h7
                      exact of_decide_eq_true h7
                    rw [HPN.out] at h9
                    show PSet _ ((itemsOf Z1).set k (y.2.1, redP nn, redQ nn))
                    rw [h8]
                    exact ⟨h9.z.more (by omega), h9.nn⟩, fun f => by
                    rw [items_set]
                    have h8 : y.2.1 = x.2.1 := by
                      have h7 := HSE.out
                      rw [sameR_right HYR.out] at h7
                      exact of_decide_eq_true h7
                    show netS f ((itemsOf Z1).set k (y.2.1, redP nn, redQ nn)) = _
                    rw [h8, HM2.out f, HPS.out.2 f, HTK.out, netS_append, netS_cons, netS_nil]
                    omega⟩, HE6⟩
                  case measure => simp [intOf]; omega
              · go_wp2
                go_roundw
                case rel => exact ⟨k + 1, by go_num, by omega, Lib.hid (fun j y' hj hy' => by
                  by_cases hjk : j < k
                  · exact HLL.out j y' hjk hy'
                  · obtain rfl : j = k := by omega
                    rw [HYI.out] at hy'
                    obtain rfl := Option.some.inj hy'
                    exact HLE.out), HE4⟩
                case measure => simp [intOf]; omega
            · have hge : n1 ≤ k := by omega
              have j2 : ¬ (k : Int) < (n1 : Int) := by omega
              have HCX : Hid (∀ w1, Ev wr w1 → (b < w1.heap.size ∧ w1.cell? ⟨b, off + i * 2, none⟩ = some (.slice x.1.1 x.1.2.1 x.1.2.2) ∧ w1.cell? ⟨b, off + i * 2 + 1, none⟩ = some (.complex .f64 (fl (pn : Int)) (fl 0))) ∧ Vs w1 x.1.1 x.1.2.1 x.1.2.2 x.2.1) := Lib.hid (fun w1 hE => ⟨⟨Nat.lt_of_lt_of_le HXB.out hE.size, (hE.cell (p := ⟨b, off + i * 2, none⟩) HXB.out).trans HX0.out, (hE.cell (p := ⟨b, off + i * 2 + 1, none⟩) HXB.out).trans HX1.out⟩, HXV.out.ev hE⟩)
              have HFS : Hid (¬ c1 = k → ∃ g : Nat, A1 = some ⟨g, 0, none⟩) := Lib.hid (fun i6 => HMS.out.slot (by omega))
              clear x0 x1 hxb
              go_upto_region 12 with fail
              refine wp_region_slots hmix [fun v _ => v = .int .i64 (k : Int), fun v _ => v = .slice A1 n1 c1, fun v _ => v = .int .i64 (n1 : Int), fun v _ => v = .bool false, fun v _ => v = .bool false, fun _ _ => True, fun _ _ => True, fun _ _ => True, fun _ _ => True, fun _ _ => True, fun _ _ => True, fun _ _ => True, fun _ _ => True, fun _ _ => True, fun _ _ => True, fun _ _ => True, fun v _ => v = .bool false]
                152 rfl (by kernel_rfl) ⟨mono_eq _, mono_eq _, mono_eq _, mono_eq _, mono_eq _, mono_true, mono_true, mono_true, mono_true, mono_true, mono_true, mono_true, mono_true, mono_true, mono_true, mono_true, mono_eq _, trivial⟩ ?_ ?_
              · refine ops_cons 0 ?_ (ops_cons 1 ?_ (ops_cons 2 ?_ (ops_cons 3 ?_ (ops_cons 4 ?_ (ops_cons 5 ?_ (ops_cons 6 ?_ (ops_cons 7 ?_ (ops_cons 8 ?_ (ops_cons 9 ?_ (ops_cons 10 ?_ (ops_cons 11 ?_ (ops_cons 12 ?_ (ops_cons 13 ?_ (ops_cons 14 ?_ (ops_cons 15 ?_ (ops_cons 16 ?_ (ops_nil 17)))))))))))))))))
                · refine op_value fun a wq c => ⟨(wanted_plain rfl), _, run_move _ rfl wq, (c.was 10 (by kernel_rfl) rfl)⟩
                · refine op_value fun a wq c => ⟨(wanted_plain rfl), _, run_move _ rfl wq, (c.was 8 (by kernel_rfl) rfl)⟩
                · refine op_value fun a wq c => ⟨(wanted_plain rfl), _, run_len_set rfl ((c.new 1 50 (by kernel_rfl) (by kernel_rfl)) : a.eval (.tmp 50) = .slice A1 n1 c1) wq, rfl⟩
                · refine op_value fun a wq c => ⟨(wanted_plain rfl), .bool false, ?_, rfl⟩
                  have e49 : a.eval (.tmp 49) = .int .i64 (k : Int) := (c.new 0 49 (by kernel_rfl) (by kernel_rfl))
                  have e51 : a.eval (.tmp 51) = .int .i64 (n1 : Int) := (c.new 2 51 (by kernel_rfl) (by kernel_rfl))
                  generalize a.eval = ρ at e49 e51 ⊢
                  simp [execOp, e49, e51, go_sem, j2]
                · refine op_value fun a wq c => ⟨(wanted_plain rfl), _, run_move _ rfl wq, (c.new 3 52 (by kernel_rfl) (by kernel_rfl))⟩
                · refine op_skip fun a wq c => ⟨(wanted_no rfl (by kernel_rfl) (c.new 4 53 (by kernel_rfl) (by kernel_rfl)) (by decide)), trivial⟩
                · refine op_skip fun a wq c => ⟨(wanted_no rfl (by kernel_rfl) (c.new 4 53 (by kernel_rfl) (by kernel_rfl)) (by decide)), trivial⟩
                · refine op_skip fun a wq c => ⟨(wanted_no rfl (by kernel_rfl) (c.new 4 53 (by kernel_rfl) (by kernel_rfl)) (by decide)), trivial⟩
                · refine op_skip fun a wq c => ⟨(wanted_no rfl (by kernel_rfl) (c.new 4 53 (by kernel_rfl) (by kernel_rfl)) (by decide)), trivial⟩
                · refine op_skip fun a wq c => ⟨(wanted_no rfl (by kernel_rfl) (c.new 4 53 (by kernel_rfl) (by kernel_rfl)) (by decide)), trivial⟩
                · refine op_skip fun a wq c => ⟨(wanted_no rfl (by kernel_rfl) (c.new 4 53 (by kernel_rfl) (by kernel_rfl)) (by decide)), trivial⟩
                · refine op_skip fun a wq c => ⟨(wanted_no rfl (by kernel_rfl) (c.new 4 53 (by kernel_rfl) (by kernel_rfl)) (by decide)), trivial⟩
                · refine op_skip fun a wq c => ⟨(wanted_no rfl (by kernel_rfl) (c.new 4 53 (by kernel_rfl) (by kernel_rfl)) (by decide)), trivial⟩
                · refine op_skip fun a wq c => ⟨(wanted_no rfl (by kernel_rfl) (c.new 4 53 (by kernel_rfl) (by kernel_rfl)) (by decide)), trivial⟩
                · refine op_skip fun a wq c => ⟨(wanted_no rfl (by kernel_rfl) (c.new 4 53 (by kernel_rfl) (by kernel_rfl)) (by decide)), trivial⟩
                · refine op_skip fun a wq c => ⟨(wanted_no rfl (by kernel_rfl) (c.new 4 53 (by kernel_rfl) (by kernel_rfl)) (by decide)), trivial⟩
                · refine op_value fun a wq c => ⟨(wanted_plain rfl), _, run_pick_false rfl (c.new 4 53 (by kernel_rfl) (by kernel_rfl)) wq, (evc a _)⟩
              intro s w3 hE hold hnew
              have f0 : s 0 = .slice (some ⟨b, off, none⟩) n cap := hold 0 (by kernel_rfl)
              have f1 : s 1 = undef := hold 1 (by kernel_rfl)
              have f2 : s 2 = u2 := hold 2 (by kernel_rfl)
              have f3 : s 3 = u3 := hold 3 (by kernel_rfl)
              have f4 : s 4 = .int .i64 (n : Int) := hold 4 (by kernel_rfl)
              have f5 : s 5 = u5 := hold 5 (by kernel_rfl)
              have f6 : s 6 = u6 := hold 6 (by kernel_rfl)
              have f7 : s 7 = u7 := hold 7 (by kernel_rfl)
              have f8 : s 8 = .slice A1 n1 c1 := hold 8 (by kernel_rfl)
              have f9 : s 9 = .int .i64 (i : Int) := hold 9 (by kernel_rfl)
              have f10 : s 10 = .int .i64 (k : Int) := hold 10 (by kernel_rfl)
              have f11 : s 11 = u11 := hold 11 (by kernel_rfl)
              have f12 : s 12 = u12 := hold 12 (by kernel_rfl)
              have f13 : s 13 = u13 := hold 13 (by kernel_rfl)
              have f14 : s 14 = undef := hold 14 (by kernel_rfl)
              have f15 : s 15 = undef := hold 15 (by kernel_rfl)
              have f16 : s 16 = .int .i64 (n : Int) := hold 16 (by kernel_rfl)
              have f17 : s 17 = .slice (some ⟨b, off, none⟩) n cap := hold 17 (by kernel_rfl)
              have f18 : s 18 = .int .i64 (n : Int) := hold 18 (by kernel_rfl)
              have f19 : s 19 = .bool false := hold 19 (by kernel_rfl)
              have f20 : s 20 = u20 := hold 20 (by kernel_rfl)
              have f21 : s 21 = u21 := hold 21 (by kernel_rfl)
              have f22 : s 22 = u22 := hold 22 (by kernel_rfl)
              have f23 : s 23 = u23 := hold 23 (by kernel_rfl)
              have f24 : s 24 = u24 := hold 24 (by kernel_rfl)
              have f25 : s 25 = u25 := hold 25 (by kernel_rfl)
              have f26 : s 26 = u26 := hold 26 (by kernel_rfl)
              have f27 : s 27 = u27 := hold 27 (by kernel_rfl)
              have f28 : s 28 = u28 := hold 28 (by kernel_rfl)
              have f29 : s 29 = u29 := hold 29 (by kernel_rfl)
              have f30 : s 30 = u30 := hold 30 (by kernel_rfl)
              have f31 : s 31 = u31 := hold 31 (by kernel_rfl)
              have f32 : s 32 = u32 := hold 32 (by kernel_rfl)
              have f33 : s 33 = u33 := hold 33 (by kernel_rfl)
              have f34 : s 34 = u34 := hold 34 (by kernel_rfl)
              have f35 : s 35 = u35 := hold 35 (by kernel_rfl)
              have f36 : s 36 = u36 := hold 36 (by kernel_rfl)
              have f37 : s 37 = u37 := hold 37 (by kernel_rfl)
              have f38 : s 38 = u38 := hold 38 (by kernel_rfl)
              have f39 : s 39 = u39 := hold 39 (by kernel_rfl)
              have f40 : s 40 = u40 := hold 40 (by kernel_rfl)
              have f41 : s 41 = u41 := hold 41 (by kernel_rfl)
              have f42 : s 42 = u42 := hold 42 (by kernel_rfl)
              have f43 : s 43 = .int .i64 (i : Int) := hold 43 (by kernel_rfl)
              have f44 : s 44 = .slice (some ⟨b, off, none⟩) n cap := hold 44 (by kernel_rfl)
              have f45 : s 45 = .int .i64 (n : Int) := hold 45 (by kernel_rfl)
              have f46 : s 46 = .bool true := hold 46 (by kernel_rfl)
              have f47 : s 47 = u47 := hold 47 (by kernel_rfl)
              have f48 : s 48 = u48 := hold 48 (by kernel_rfl)
              have f68 : s 68 = u68 := hold 68 (by kernel_rfl)
              have f69 : s 69 = u69 := hold 69 (by kernel_rfl)
              have f70 : s 70 = u70 := hold 70 (by kernel_rfl)
              have f71 : s 71 = u71 := hold 71 (by kernel_rfl)
              have f72 : s 72 = u72 := hold 72 (by kernel_rfl)
              have f73 : s 73 = u73 := hold 73 (by kernel_rfl)
              have f74 : s 74 = u74 := hold 74 (by kernel_rfl)
              have f75 : s 75 = u75 := hold 75 (by kernel_rfl)
              have f76 : s 76 = u76 := hold 76 (by kernel_rfl)
              have f77 : s 77 = u77 := hold 77 (by kernel_rfl)
              have f78 : s 78 = u78 := hold 78 (by kernel_rfl)
              have f79 : s 79 = u79 := hold 79 (by kernel_rfl)
              have f80 : s 80 = u80 := hold 80 (by kernel_rfl)
              have f81 : s 81 = u81 := hold 81 (by kernel_rfl)
              have f82 : s 82 = u82 := hold 82 (by kernel_rfl)
              have f83 : s 83 = u83 := hold 83 (by kernel_rfl)
              have f84 : s 84 = u84 := hold 84 (by kernel_rfl)
              have f85 : s 85 = u85 := hold 85 (by kernel_rfl)
              have f86 : s 86 = u86 := hold 86 (by kernel_rfl)
              have f87 : s 87 = u87 := hold 87 (by kernel_rfl)
              have f88 : s 88 = u88 := hold 88 (by kernel_rfl)
              have f89 : s 89 = u89 := hold 89 (by kernel_rfl)
              have f90 : s 90 = u90 := hold 90 (by kernel_rfl)
              have f91 : s 91 = u91 := hold 91 (by kernel_rfl)
              have f92 : s 92 = u92 := hold 92 (by kernel_rfl)
              have f93 : s 93 = u93 := hold 93 (by kernel_rfl)
              have f94 : s 94 = u94 := hold 94 (by kernel_rfl)
              have f95 : s 95 = u95 := hold 95 (by kernel_rfl)
              have f96 : s 96 = u96 := hold 96 (by kernel_rfl)
              have f97 : s 97 = u97 := hold 97 (by kernel_rfl)
              have f98 : s 98 = u98 := hold 98 (by kernel_rfl)
              have f99 : s 99 = u99 := hold 99 (by kernel_rfl)
              have f100 : s 100 = u100 := hold 100 (by kernel_rfl)
              have f101 : s 101 = u101 := hold 101 (by kernel_rfl)
              have f102 : s 102 = u102 := hold 102 (by kernel_rfl)
              have f103 : s 103 = u103 := hold 103 (by kernel_rfl)
              have f104 : s 104 = u104 := hold 104 (by kernel_rfl)
              have f105 : s 105 = u105 := hold 105 (by kernel_rfl)
              have f106 : s 106 = u106 := hold 106 (by kernel_rfl)
              have f107 : s 107 = u107 := hold 107 (by kernel_rfl)
              have f108 : s 108 = u108 := hold 108 (by kernel_rfl)
              have f109 : s 109 = u109 := hold 109 (by kernel_rfl)
              have f110 : s 110 = u110 := hold 110 (by kernel_rfl)
              have f111 : s 111 = u111 := hold 111 (by kernel_rfl)
              have f112 : s 112 = u112 := hold 112 (by kernel_rfl)
              have f113 : s 113 = u113 := hold 113 (by kernel_rfl)
              have f114 : s 114 = u114 := hold 114 (by kernel_rfl)
              have f115 : s 115 = u115 := hold 115 (by kernel_rfl)
              have f116 : s 116 = u116 := hold 116 (by kernel_rfl)
              have f117 : s 117 = u117 := hold 117 (by kernel_rfl)
              have f118 : s 118 = u118 := hold 118 (by kernel_rfl)
              have f119 : s 119 = u119 := hold 119 (by kernel_rfl)
              have f120 : s 120 = u120 := hold 120 (by kernel_rfl)
              have f121 : s 121 = u121 := hold 121 (by kernel_rfl)
              have f122 : s 122 = u122 := hold 122 (by kernel_rfl)
              have f123 : s 123 = u123 := hold 123 (by kernel_rfl)
              have f124 : s 124 = u124 := hold 124 (by kernel_rfl)
              have f125 : s 125 = u125 := hold 125 (by kernel_rfl)
              have f126 : s 126 = u126 := hold 126 (by kernel_rfl)
              have f127 : s 127 = u127 := hold 127 (by kernel_rfl)
              have f128 : s 128 = u128 := hold 128 (by kernel_rfl)
              have f129 : s 129 = u129 := hold 129 (by kernel_rfl)
              have f130 : s 130 = u130 := hold 130 (by kernel_rfl)
              have f131 : s 131 = u131 := hold 131 (by kernel_rfl)
              have f132 : s 132 = undef := hold 132 (by kernel_rfl)
              have f133 : s 133 = undef := hold 133 (by kernel_rfl)
              have f134 : s 134 = undef := hold 134 (by kernel_rfl)
              have f135 : s 135 = undef := hold 135 (by kernel_rfl)
              have f136 : s 136 = undef := hold 136 (by kernel_rfl)
              have f137 : s 137 = undef := hold 137 (by kernel_rfl)
              have f138 : s 138 = undef := hold 138 (by kernel_rfl)
              have f139 : s 139 = undef := hold 139 (by kernel_rfl)
              have f140 : s 140 = undef := hold 140 (by kernel_rfl)
              have f141 : s 141 = undef := hold 141 (by kernel_rfl)
              have f142 : s 142 = undef := hold 142 (by kernel_rfl)
              have f143 : s 143 = undef := hold 143 (by kernel_rfl)
              have f144 : s 144 = undef := hold 144 (by kernel_rfl)
              have f145 : s 145 = undef := hold 145 (by kernel_rfl)
              have f146 : s 146 = undef := hold 146 (by kernel_rfl)
              have f147 : s 147 = undef := hold 147 (by kernel_rfl)
              have f148 : s 148 = undef := hold 148 (by kernel_rfl)
              have f149 : s 149 = undef := hold 149 (by kernel_rfl)
              have f150 : s 150 = undef := hold 150 (by kernel_rfl)
              have f151 : s 151 = undef := hold 151 (by kernel_rfl)
              have f49 : s 49 = .int .i64 (k : Int) := hnew 0 49 (by kernel_rfl)
              have f50 : s 50 = .slice A1 n1 c1 := hnew 1 50 (by kernel_rfl)
              have f51 : s 51 = .int .i64 (n1 : Int) := hnew 2 51 (by kernel_rfl)
              have f52 : s 52 = .bool false := hnew 3 52 (by kernel_rfl)
              have f53 : s 53 = .bool false := hnew 4 53 (by kernel_rfl)
              have f65 : s 65 = .bool false := hnew 16 65 (by kernel_rfl)
              change Exit.then _ _ .normal ⟨#[s 0, s 1, s 2, s 3, s 4, s 5, s 6, s 7, s 8, s 9, s 10, s 11, s 12, s 13, s 14, s 15, s 16, s 17, s 18, s 19, s 20, s 21, s 22, s 23, s 24, s 25, s 26, s 27, s 28, s 29, s 30, s 31, s 32, s 33, s 34, s 35, s 36, s 37, s 38, s 39, s 40, s 41, s 42, s 43, s 44, s 45, s 46, s 47, s 48, s 49, s 50, s 51, s 52, s 53, s 54, s 55, s 56, s 57, s 58, s 59, s 60, s 61, s 62, s 63, s 64, s 65, s 66, s 67, s 68, s 69, s 70, s 71, s 72, s 73, s 74, s 75, s 76, s 77, s 78, s 79, s 80, s 81, s 82, s 83, s 84, s 85, s 86, s 87, s 88, s 89, s 90, s 91, s 92, s 93, s 94, s 95, s 96, s 97, s 98, s 99, s 100, s 101, s 102, s 103, s 104, s 105, s 106, s 107, s 108, s 109, s 110, s 111, s 112, s 113, s 114, s 115, s 116, s 117, s 118, s 119, s 120, s 121, s 122, s 123, s 124, s 125, s 126, s 127, s 128, s 129, s 130, s 131, s 132, s 133, s 134, s 135, s 136, s 137, s 138, s 139, s 140, s 141, s 142, s 143, s 144, s 145, s 146, s 147, s 148, s 149, s 150, s 151], _⟩ _
              simp only [f0, f1, f2, f3, f4, f5, f6, f7, f8, f9, f10, f11, f12, f13, f14, f15, f16, f17, f18, f19, f20, f21, f22, f23, f24, f25, f26, f27, f28, f29, f30, f31, f32, f33, f34, f35, f36, f37, f38, f39, f40, f41, f42, f43, f44, f45, f46, f47, f48, f68, f69, f70, f71, f72, f73, f74, f75, f76, f77, f78, f79, f80, f81, f82, f83, f84, f85, f86, f87, f88, f89, f90, f91, f92, f93, f94, f95, f96, f97, f98, f99, f100, f101, f102, f103, f104, f105, f106, f107, f108, f109, f110, f111, f112, f113, f114, f115, f116, f117, f118, f119, f120, f121, f122, f123, f124, f125, f126, f127, f128, f129, f130, f131, f132, f133, f134, f135, f136, f137, f138, f139, f140, f141, f142, f143, f144, f145, f146, f147, f148, f149, f150, f151, f49, f50, f51, f52, f53, f65]
              clear hold hnew
              generalize s 66 = u66
              generalize s 67 = u67
              have HE4 := Lib.hid (HE3.out.trans hE)
              clear hE
              go_upto_region 14 with fail
              refine wp_region_slots hmix [fun v _ => v = .int .i64 (k : Int), fun v _ => v = .slice A1 n1 c1, fun v _ => v = .int .i64 (n1 : Int), fun v _ => v = .bool false, fun v _ => v = .bool false, fun _ _ => True, fun _ _ => True, fun _ _ => True, fun _ _ => True, fun _ _ => True, fun _ _ => True, fun _ _ => True, fun _ _ => True, fun _ _ => True, fun _ _ => True, fun _ _ => True, fun v _ => v = .bool false]
                152 rfl (by kernel_rfl) ⟨mono_eq _, mono_eq _, mono_eq _, mono_eq _, mono_eq _, mono_true, mono_true, mono_true, mono_true, mono_true, mono_true, mono_true, mono_true, mono_true, mono_true, mono_true, mono_eq _, trivial⟩ ?_ ?_
              · refine ops_cons 0 ?_ (ops_cons 1 ?_ (ops_cons 2 ?_ (ops_cons 3 ?_ (ops_cons 4 ?_ (ops_cons 5 ?_ (ops_cons 6 ?_ (ops_cons 7 ?_ (ops_cons 8 ?_ (ops_cons 9 ?_ (ops_cons 10 ?_ (ops_cons 11 ?_ (ops_cons 12 ?_ (ops_cons 13 ?_ (ops_cons 14 ?_ (ops_cons 15 ?_ (ops_cons 16 ?_ (ops_nil 17)))))))))))))))))
                · refine op_value fun a wq c => ⟨(wanted_plain rfl), _, run_move _ rfl wq, (c.was 10 (by kernel_rfl) rfl)⟩
                · refine op_value fun a wq c => ⟨(wanted_plain rfl), _, run_move _ rfl wq, (c.was 8 (by kernel_rfl) rfl)⟩
                · refine op_value fun a wq c => ⟨(wanted_plain rfl), _, run_len_set rfl ((c.new 1 69 (by kernel_rfl) (by kernel_rfl)) : a.eval (.tmp 69) = .slice A1 n1 c1) wq, rfl⟩
                · refine op_value fun a wq c => ⟨(wanted_plain rfl), .bool false, ?_, rfl⟩
                  have e68 : a.eval (.tmp 68) = .int .i64 (k : Int) := (c.new 0 68 (by kernel_rfl) (by kernel_rfl))
                  have e70 : a.eval (.tmp 70) = .int .i64 (n1 : Int) := (c.new 2 70 (by kernel_rfl) (by kernel_rfl))
                  generalize a.eval = ρ at e68 e70 ⊢
                  simp [execOp, e68, e70, go_sem, j2]
                · refine op_value fun a wq c => ⟨(wanted_plain rfl), _, run_move _ rfl wq, (c.new 3 71 (by kernel_rfl) (by kernel_rfl))⟩
                · refine op_skip fun a wq c => ⟨(wanted_no rfl (by kernel_rfl) (c.new 4 72 (by kernel_rfl) (by kernel_rfl)) (by decide)), trivial⟩
                · refine op_skip fun a wq c => ⟨(wanted_no rfl (by kernel_rfl) (c.new 4 72 (by kernel_rfl) (by kernel_rfl)) (by decide)), trivial⟩
                · refine op_skip fun a wq c => ⟨(wanted_no rfl (by kernel_rfl) (c.new 4 72 (by kernel_rfl) (by kernel_rfl)) (by decide)), trivial⟩
                · refine op_skip fun a wq c => ⟨(wanted_no rfl (by kernel_rfl) (c.new 4 72 (by kernel_rfl) (by kernel_rfl)) (by decide)), trivial⟩
                · refine op_skip fun a wq c => ⟨(wanted_no rfl (by kernel_rfl) (c.new 4 72 (by kernel_rfl) (by kernel_rfl)) (by decide)), trivial⟩
                · refine op_skip fun a wq c => ⟨(wanted_no rfl (by kernel_rfl) (c.new 4 72 (by kernel_rfl) (by kernel_rfl)) (by decide)), trivial⟩
                · refine op_skip fun a wq c => ⟨(wanted_no rfl (by kernel_rfl) (c.new 4 72 (by kernel_rfl) (by kernel_rfl)) (by decide)), trivial⟩
                · refine op_skip fun a wq c => ⟨(wanted_no rfl (by kernel_rfl) (c.new 4 72 (by kernel_rfl) (by kernel_rfl)) (by decide)), trivial⟩
                · refine op_skip fun a wq c => ⟨(wanted_no rfl (by kernel_rfl) (c.new 4 72 (by kernel_rfl) (by kernel_rfl)) (by decide)), trivial⟩
                · refine op_skip fun a wq c => ⟨(wanted_no rfl (by kernel_rfl) (c.new 4 72 (by kernel_rfl) (by kernel_rfl)) (by decide)), trivial⟩
                · refine op_skip fun a wq c => ⟨(wanted_no rfl (by kernel_rfl) (c.new 4 72 (by kernel_rfl) (by kernel_rfl)) (by decide)), trivial⟩
                · refine op_value fun a wq c => ⟨(wanted_plain rfl), _, run_pick_false rfl (c.new 4 72 (by kernel_rfl) (by kernel_rfl)) wq, (evc a _)⟩
              intro s w4 hE hold hnew
              have f0 : s 0 = .slice (some ⟨b, off, none⟩) n cap := hold 0 (by kernel_rfl)
              have f1 : s 1 = undef := hold 1 (by kernel_rfl)
              have f4 : s 4 = .int .i64 (n : Int) := hold 4 (by kernel_rfl)
              have f5 : s 5 = u5 := hold 5 (by kernel_rfl)
              have f6 : s 6 = u6 := hold 6 (by kernel_rfl)
              have f7 : s 7 = u7 := hold 7 (by kernel_rfl)
              have f8 : s 8 = .slice A1 n1 c1 := hold 8 (by kernel_rfl)
              have f9 : s 9 = .int .i64 (i : Int) := hold 9 (by kernel_rfl)
              have f10 : s 10 = .int .i64 (k : Int) := hold 10 (by kernel_rfl)
              have f14 : s 14 = undef := hold 14 (by kernel_rfl)
              have f15 : s 15 = undef := hold 15 (by kernel_rfl)
              have f16 : s 16 = .int .i64 (n : Int) := hold 16 (by kernel_rfl)
              have f17 : s 17 = .slice (some ⟨b, off, none⟩) n cap := hold 17 (by kernel_rfl)
              have f18 : s 18 = .int .i64 (n : Int) := hold 18 (by kernel_rfl)
              have f19 : s 19 = .bool false := hold 19 (by kernel_rfl)
              have f20 : s 20 = u20 := hold 20 (by kernel_rfl)
              have f21 : s 21 = u21 := hold 21 (by kernel_rfl)
              have f22 : s 22 = u22 := hold 22 (by kernel_rfl)
              have f23 : s 23 = u23 := hold 23 (by kernel_rfl)
              have f24 : s 24 = u24 := hold 24 (by kernel_rfl)
              have f25 : s 25 = u25 := hold 25 (by kernel_rfl)
              have f26 : s 26 = u26 := hold 26 (by kernel_rfl)
              have f27 : s 27 = u27 := hold 27 (by kernel_rfl)
              have f28 : s 28 = u28 := hold 28 (by kernel_rfl)
              have f29 : s 29 = u29 := hold 29 (by kernel_rfl)
              have f30 : s 30 = u30 := hold 30 (by kernel_rfl)
              have f31 : s 31 = u31 := hold 31 (by kernel_rfl)
              have f32 : s 32 = u32 := hold 32 (by kernel_rfl)
              have f33 : s 33 = u33 := hold 33 (by kernel_rfl)
              have f34 : s 34 = u34 := hold 34 (by kernel_rfl)
              have f35 : s 35 = u35 := hold 35 (by kernel_rfl)
              have f36 : s 36 = u36 := hold 36 (by kernel_rfl)
              have f37 : s 37 = u37 := hold 37 (by kernel_rfl)
              have f38 : s 38 = u38 := hold 38 (by kernel_rfl)
              have f39 : s 39 = u39 := hold 39 (by kernel_rfl)
              have f40 : s 40 = u40 := hold 40 (by kernel_rfl)
              have f41 : s 41 = u41 := hold 41 (by kernel_rfl)
              have f42 : s 42 = u42 := hold 42 (by kernel_rfl)
              have f132 : s 132 = undef := hold 132 (by kernel_rfl)
              have f133 : s 133 = undef := hold 133 (by kernel_rfl)
              have f134 : s 134 = undef := hold 134 (by kernel_rfl)
              have f135 : s 135 = undef := hold 135 (by kernel_rfl)
              have f136 : s 136 = undef := hold 136 (by kernel_rfl)
              have f137 : s 137 = undef := hold 137 (by kernel_rfl)
              have f138 : s 138 = undef := hold 138 (by kernel_rfl)
              have f139 : s 139 = undef := hold 139 (by kernel_rfl)
              have f140 : s 140 = undef := hold 140 (by kernel_rfl)
              have f141 : s 141 = undef := hold 141 (by kernel_rfl)
              have f142 : s 142 = undef := hold 142 (by kernel_rfl)
              have f143 : s 143 = undef := hold 143 (by kernel_rfl)
              have f144 : s 144 = undef := hold 144 (by kernel_rfl)
              have f145 : s 145 = undef := hold 145 (by kernel_rfl)
              have f146 : s 146 = undef := hold 146 (by kernel_rfl)
              have f147 : s 147 = undef := hold 147 (by kernel_rfl)
              have f148 : s 148 = undef := hold 148 (by kernel_rfl)
              have f149 : s 149 = undef := hold 149 (by kernel_rfl)
              have f150 : s 150 = undef := hold 150 (by kernel_rfl)
              have f151 : s 151 = undef := hold 151 (by kernel_rfl)
              have f68 : s 68 = .int .i64 (k : Int) := hnew 0 68 (by kernel_rfl)
              have f69 : s 69 = .slice A1 n1 c1 := hnew 1 69 (by kernel_rfl)
              have f70 : s 70 = .int .i64 (n1 : Int) := hnew 2 70 (by kernel_rfl)
              have f71 : s 71 = .bool false := hnew 3 71 (by kernel_rfl)
              have f72 : s 72 = .bool false := hnew 4 72 (by kernel_rfl)
              have f84 : s 84 = .bool false := hnew 16 84 (by kernel_rfl)
              change Exit.then _ _ .normal ⟨#[s 0, s 1, s 2, s 3, s 4, s 5, s 6, s 7, s 8, s 9, s 10, s 11, s 12, s 13, s 14, s 15, s 16, s 17, s 18, s 19, s 20, s 21, s 22, s 23, s 24, s 25, s 26, s 27, s 28, s 29, s 30, s 31, s 32, s 33, s 34, s 35, s 36, s 37, s 38, s 39, s 40, s 41, s 42, s 43, s 44, s 45, s 46, s 47, s 48, s 49, s 50, s 51, s 52, s 53, s 54, s 55, s 56, s 57, s 58, s 59, s 60, s 61, s 62, s 63, s 64, s 65, s 66, s 67, s 68, s 69, s 70, s 71, s 72, s 73, s 74, s 75, s 76, s 77, s 78, s 79, s 80, s 81, s 82, s 83, s 84, s 85, s 86, s 87, s 88, s 89, s 90, s 91, s 92, s 93, s 94, s 95, s 96, s 97, s 98, s 99, s 100, s 101, s 102, s 103, s 104, s 105, s 106, s 107, s 108, s 109, s 110, s 111, s 112, s 113, s 114, s 115, s 116, s 117, s 118, s 119, s 120, s 121, s 122, s 123, s 124, s 125, s 126, s 127, s 128, s 129, s 130, s 131, s 132, s 133, s 134, s 135, s 136, s 137, s 138, s 139, s 140, s 141, s 142, s 143, s 144, s 145, s 146, s 147, s 148, s 149, s 150, s 151], _⟩ _
              simp only [f0, f1, f4, f5, f6, f7, f8, f9, f10, f14, f15, f16, f17, f18, f19, f20, f21, f22, f23, f24, f25, f26, f27, f28, f29, f30, f31, f32, f33, f34, f35, f36, f37, f38, f39, f40, f41, f42, f132, f133, f134, f135, f136, f137, f138, f139, f140, f141, f142, f143, f144, f145, f146, f147, f148, f149, f150, f151, f68, f69, f70, f71, f72, f84]
              clear hold hnew
              generalize s 2 = u2
              generalize s 3 = u3
              generalize s 11 = u11
              generalize s 12 = u12
              generalize s 13 = u13
              generalize s 43 = u43
              generalize s 44 = u44
              generalize s 45 = u45
              generalize s 46 = u46
              generalize s 47 = u47
              generalize s 48 = u48
              generalize s 49 = u49
              generalize s 50 = u50
              generalize s 51 = u51
              generalize s 52 = u52
              generalize s 53 = u53
              generalize s 54 = u54
              generalize s 55 = u55
              generalize s 56 = u56
              generalize s 57 = u57
              generalize s 58 = u58
              generalize s 59 = u59
              generalize s 60 = u60
              generalize s 61 = u61
              generalize s 62 = u62
              generalize s 63 = u63
              generalize s 64 = u64
              generalize s 65 = u65
              generalize s 66 = u66
              generalize s 67 = u67
              generalize s 85 = u85
              generalize s 86 = u86
              generalize s 87 = u87
              generalize s 88 = u88
              generalize s 89 = u89
              generalize s 90 = u90
              generalize s 91 = u91
              generalize s 92 = u92
              generalize s 93 = u93
              generalize s 94 = u94
              generalize s 95 = u95
              generalize s 96 = u96
              generalize s 97 = u97
              generalize s 98 = u98
              generalize s 99 = u99
              generalize s 100 = u100
              generalize s 101 = u101
              generalize s 102 = u102
              generalize s 103 = u103
              generalize s 104 = u104
              generalize s 105 = u105
              generalize s 106 = u106
              generalize s 107 = u107
              generalize s 108 = u108
              generalize s 109 = u109
              generalize s 110 = u110
              generalize s 111 = u111
              generalize s 112 = u112
              generalize s 113 = u113
              generalize s 114 = u114
              generalize s 115 = u115
              generalize s 116 = u116
              generalize s 117 = u117
              generalize s 118 = u118
              generalize s 119 = u119
              generalize s 120 = u120
              generalize s 121 = u121
              generalize s 122 = u122
              generalize s 123 = u123
              generalize s 124 = u124
              generalize s 125 = u125
              generalize s 126 = u126
              generalize s 127 = u127
              generalize s 128 = u128
              generalize s 129 = u129
              generalize s 130 = u130
              generalize s 131 = u131
              have HEQ := Lib.hid (HE4.out.trans hE)
              clear hE
              obtain ⟨⟨hxb, x0, x1⟩, HXV'⟩ := HCX.out w4 HEQ.out
              have HXV := Lib.hid HXV'
              clear HXV'
              have HSLI := Lib.hid (HMS.out.ev HEQ.out).sl
              have HGG : Hid (∀ y', (itemsOf Z1)[k]? = some y' → lessR y'.1 x.2.1 = false ∧ y'.1 ≠ x.2.1) := Lib.hid (fun y' e => by
                have h9 := (List.getElem?_eq_some_iff.1 e).1
                rw [itemsOf_length, HZL.out] at h9
                omega)
              go_upto_region 19 with fail
              refine wp_region_slotsG hmix (fun u => Ev w4 u) (fun p _ _ => match p with | 0 => True | _ + 1 => False) [20] (fun _ _ => True) [0, 4, 5, 11, 18, 19] [[20, 21]] 20 [Empty0 62 w4.heap.size, fun v _ => v = .slice A1 n1 c1, fun v _ => v = .int .i64 (k : Int), fun v _ => v = .slice A1 k c1, AheadF w4.heap.size (Z1.take k), Empty0 32 w4.heap.size, fun v _ => v = .slice (some ⟨b, off, none⟩) n cap, fun v _ => v = .int .i64 (i : Int), fun v _ => v = .pointer (some ⟨b, off + i * 2, none⟩), fun v _ => v = .pointer (some ⟨b, off + i * 2, none⟩), fun v _ => v = .slice x.1.1 x.1.2.1 x.1.2.2, RowNF w4.heap.size x.2.1, fun v _ => v = .slice (some ⟨b, off, none⟩) n cap, fun v _ => v = .int .i64 (i : Int), fun v _ => v = .pointer (some ⟨b, off + i * 2, none⟩), fun v _ => v = .pointer (some ⟨b, off + i * 2 + 1, none⟩), fun v _ => v = .complex .f64 (fl (pn : Int)) (fl 0), fun v _ => v = .complex .f64 (fl (redP (pn : Int))) (fl (redQ (pn : Int))), ItNF w4.heap.size (x.2.1, redP (pn : Int), redQ (pn : Int)), OneJF w4.heap.size (x.2.1, redP (pn : Int), redQ (pn : Int)), NewJF w4.heap.size (Z1.take k) (x.2.1, redP (pn : Int), redQ (pn : Int)), NewJF w4.heap.size (Z1.take k) (x.2.1, redP (pn : Int), redQ (pn : Int))]
                152 1 rfl (by kernel_rfl) ⟨Empty0.mono, mono_eq _, mono_eq _, mono_eq _, AheadF.mono _ _, Empty0.mono, mono_eq _, mono_eq _, mono_eq _, mono_eq _, mono_eq _, RowNF.mono _ _, mono_eq _, mono_eq _, mono_eq _, mono_eq _, mono_eq _, mono_eq _, ItNF.mono _ _, OneJF.mono _ _, NewJF.mono _ _ _, NewJF.mono _ _ _, trivial⟩ ⟨Or.inl rfl, Or.inr fun p => Or.inr fun _ _ _ _ h => h, Or.inr fun p => Or.inr fun _ _ _ _ h => h, Or.inr fun p => Or.inr fun _ _ _ _ h => h, Or.inl rfl, Or.inl rfl, Or.inr fun p => Or.inr fun _ _ _ _ h => h, Or.inr fun p => Or.inr fun _ _ _ _ h => h, Or.inr fun p => Or.inr fun _ _ _ _ h => h, Or.inr fun p => Or.inr fun _ _ _ _ h => h, Or.inr fun p => Or.inr fun _ _ _ _ h => h, Or.inl rfl, Or.inr fun p => Or.inr fun _ _ _ _ h => h, Or.inr fun p => Or.inr fun _ _ _ _ h => h, Or.inr fun p => Or.inr fun _ _ _ _ h => h, Or.inr fun p => Or.inr fun _ _ _ _ h => h, Or.inr fun p => Or.inr fun _ _ _ _ h => h, Or.inr fun p => Or.inr fun _ _ _ _ h => h, Or.inl rfl, Or.inl rfl, Or.inr fun p => match p with | 0 => Or.inl rfl | _ + 1 => Or.inr fun _ _ _ hb h => hb.elim, Or.inr fun p => match p with | 0 => Or.inl rfl | _ + 1 => Or.inr fun _ _ _ hb h => hb.elim, trivial⟩ (by kernel_rfl) rfl (by kernel_rfl) (fun _ _ _ _ _ => trivial) (fun u u' hE h => h.trans hE) (Ev.refl _) (trivial) (by kernel_rfl) (fun _ _ _ => True) [] (by kernel_rfl) (fun _ _ _ _ _ _ _ _ _ _ => trivial) (fun _ _ => trivial) ?_ ?_ ?_ ?_
              · refine opc_cons 0 ?_ (opc_cons 1 ?_ (opc_cons 2 ?_ (opc_cons 3 ?_ (opc_cons 4 ?_ (opc_cons 5 ?_ (opc_cons 6 ?_ (opc_cons 7 ?_ (opc_cons 8 ?_ (opc_cons 9 ?_ (opc_cons 10 ?_ (opc_cons 11 ?_ (opc_cons 12 ?_ (opc_cons 13 ?_ (opc_cons 14 ?_ (opc_cons 15 ?_ (opc_cons 16 ?_ (opc_cons 17 ?_ (opc_cons 18 ?_ (opc_cons 19 ?_ (opc_turn 20 (by decide) (opc_cons 21 ?_ (opc_nil 22))))))))))))))))))))))
                · refine opg_makes fun a wq c => ⟨(wanted_plain rfl), _, _, run_build_set0 rfl wq, Ev.alloc _ _, c.inv.trans (Ev.alloc wq _), Empty0.new c.inv.size⟩
                · refine opg_value fun a wq c => ⟨(wanted_plain rfl), _, run_move _ rfl wq, (c.was 8 (by kernel_rfl) rfl)⟩
                · refine opg_value fun a wq c => ⟨(wanted_plain rfl), _, run_move _ rfl wq, (c.was 10 (by kernel_rfl) rfl)⟩
                · refine opg_value fun a wq c => ⟨(wanted_plain rfl), _, run_to_set k rfl ((c.new 1 107 (by kernel_rfl) (by kernel_rfl) (by kernel_rfl)) : a.eval (.tmp 107) = .slice A1 n1 c1) (c.new 2 108 (by kernel_rfl) (by kernel_rfl) (by kernel_rfl)) hkc wq, rfl⟩
                · refine opg_makes fun a wq c => ?_
                  have h0_ := (c.got 0 106 (by kernel_rfl) (by kernel_rfl) (by kernel_rfl) rfl : Empty0 _ _ _ _)
                  have e_1 : a.eval (.tmp 109) = .slice A1 k c1 := (c.new 3 109 (by kernel_rfl) (by kernel_rfl) (by kernel_rfl))
                  obtain ⟨v_, w_, hr_, h1_, hp_, h2_⟩ := run_append_owP0 (P := Tryz.prog) PvI encJ 41 41 Tryz.underlying41 Tryz.infoItemJ rfl h0_ A1 k c1 (Z1.take k) ((HSLI.out.ev c.inv).to k hkn) (by rw [List.length_take]; omega) (by rw [List.length_take]; omega) c.inv.size pvi_zero (fun z _ => pvi_j z)
                  refine ⟨(wanted_plain rfl), v_, w_, ?_, h2_, c.inv.trans h2_, h1_, hp_⟩
                  obtain ⟨g_, e_0, _⟩ := h0_
                  unfold execOp
                  rw [e_0] at hr_
                  simp only [resolve, invoke, builtin, Sem.run_bind, Sem.run_pure, Result.andThen_ok, List.map_toArray, List.map_cons, List.map_nil, e_0, e_1, hr_]
                · refine opg_makes fun a wq c => ⟨(wanted_plain rfl), _, _, run_build_row0 rfl wq, Ev.alloc _ _, c.inv.trans (Ev.alloc wq _), Empty0.new c.inv.size⟩
                · refine opg_value fun a wq c => ⟨(wanted_plain rfl), _, run_move _ rfl wq, (c.was 0 (by kernel_rfl) rfl)⟩
                · refine opg_value fun a wq c => ⟨(wanted_plain rfl), _, run_move _ rfl wq, (c.was 9 (by kernel_rfl) rfl)⟩
                · refine opg_value fun a wq c => ⟨(wanted_plain rfl), .pointer (some ⟨b, off + i * 2, none⟩), ?_, rfl⟩
                  have e112 : a.eval (.tmp 112) = .slice (some ⟨b, off, none⟩) n cap := (c.new 6 112 (by kernel_rfl) (by kernel_rfl) (by kernel_rfl))
                  have e113 : a.eval (.tmp 113) = .int .i64 (i : Int) := (c.new 7 113 (by kernel_rfl) (by kernel_rfl) (by kernel_rfl))
                  generalize a.eval = ρ at e112 e113 ⊢
                  simp [execOp, e112, e113, go_sem, i1, i2]
                · refine opg_value fun a wq c => ⟨(wanted_plain rfl), .pointer (some ⟨b, off + i * 2, none⟩), ?_, rfl⟩
                  have e114 : a.eval (.tmp 114) = .pointer (some ⟨b, off + i * 2, none⟩) := (c.new 8 114 (by kernel_rfl) (by kernel_rfl) (by kernel_rfl))
                  generalize a.eval = ρ at e114 ⊢
                  simp [execOp, e114, go_sem]
                · refine opg_value fun a wq c => ⟨(wanted_plain rfl), .slice x.1.1 x.1.2.1 x.1.2.2, ?_, rfl⟩
                  have e_0 : a.eval (.tmp 115) = .pointer (some ⟨b, off + i * 2, none⟩) := (c.new 9 115 (by kernel_rfl) (by kernel_rfl) (by kernel_rfl))
                  have hc := (c.inv.cell (p := ⟨_, _, none⟩) hxb).trans x0
                  generalize a.eval = ρ at e_0 ⊢
                  simp [execOp, e_0, hc, go_sem]
                · refine opg_makes fun a wq c => ?_
                  have h0_ := (c.got 5 111 (by kernel_rfl) (by kernel_rfl) (by kernel_rfl) rfl : Empty0 _ _ _ _)
                  have e_1 : a.eval (.tmp 116) = .slice x.1.1 x.1.2.1 x.1.2.2 := (c.new 10 116 (by kernel_rfl) (by kernel_rfl) (by kernel_rfl))
                  obtain ⟨v_, w_, hr_, h1_, h2_⟩ := run_append_ow0 (P := Tryz.prog) encVv 23 23 Tryz.underlying23 Tryz.infoValueM rfl h0_ x.1.1 x.1.2.1 x.1.2.2 x.2.1 (HXV.out.ev c.inv) HXL.out.1 HXL.out.2 c.inv.size
                  obtain ⟨A5, c5, rfl, hS5, hA5⟩ := h1_.form encVv
                  refine ⟨(wanted_plain rfl), _, w_, ?_, h2_, c.inv.trans h2_, A5, c5, rfl, hS5, fun ad ea => ⟨(hA5 ad ea).2.1, (hA5 ad ea).2.2.1⟩⟩
                  obtain ⟨g_, e_0, _⟩ := h0_
                  unfold execOp
                  rw [e_0] at hr_
                  simp only [resolve, invoke, builtin, Sem.run_bind, Sem.run_pure, Result.andThen_ok, List.map_toArray, List.map_cons, List.map_nil, e_0, e_1, hr_]
                · refine opg_value fun a wq c => ⟨(wanted_plain rfl), _, run_move _ rfl wq, (c.was 0 (by kernel_rfl) rfl)⟩
                · refine opg_value fun a wq c => ⟨(wanted_plain rfl), _, run_move _ rfl wq, (c.was 9 (by kernel_rfl) rfl)⟩
                · refine opg_value fun a wq c => ⟨(wanted_plain rfl), .pointer (some ⟨b, off + i * 2, none⟩), ?_, rfl⟩
                  have e118 : a.eval (.tmp 118) = .slice (some ⟨b, off, none⟩) n cap := (c.new 12 118 (by kernel_rfl) (by kernel_rfl) (by kernel_rfl))
                  have e119 : a.eval (.tmp 119) = .int .i64 (i : Int) := (c.new 13 119 (by kernel_rfl) (by kernel_rfl) (by kernel_rfl))
                  generalize a.eval = ρ at e118 e119 ⊢
                  simp [execOp, e118, e119, go_sem, i1, i2]
                · refine opg_value fun a wq c => ⟨(wanted_plain rfl), .pointer (some ⟨b, off + i * 2 + 1, none⟩), ?_, rfl⟩
                  have e120 : a.eval (.tmp 120) = .pointer (some ⟨b, off + i * 2, none⟩) := (c.new 14 120 (by kernel_rfl) (by kernel_rfl) (by kernel_rfl))
                  generalize a.eval = ρ at e120 ⊢
                  simp [execOp, e120, go_sem]
                · refine opg_value fun a wq c => ⟨(wanted_plain rfl), .complex .f64 (fl (pn : Int)) (fl 0), ?_, rfl⟩
                  have e_0 : a.eval (.tmp 121) = .pointer (some ⟨b, off + i * 2 + 1, none⟩) := (c.new 15 121 (by kernel_rfl) (by kernel_rfl) (by kernel_rfl))
                  have hc := (c.inv.cell (p := ⟨_, _, none⟩) hxb).trans x1
                  generalize a.eval = ρ at e_0 ⊢
                  simp [execOp, e_0, hc, go_sem]
                · refine opg_call fun a wq c => ⟨(wanted_plain rfl), 48, #[.complex .f64 (fl (pn : Int)) (fl 0)], ?_, ?_⟩
                  · rw [run_call 48 _ _ rfl (by kernel_rfl)]
                    have e_0 : a.eval (.tmp 122) = .complex .f64 (fl (pn : Int)) (fl 0) := (c.new 16 122 (by kernel_rfl) (by kernel_rfl) (by kernel_rfl))
                    simp [e_0]
                  · refine (HRD.out wq).mono ?_
                    rintro e wp ⟨rfl, rfl⟩
                    exact ⟨_, rfl, Ev.refl _, c.inv, rfl⟩
                · refine opg_value fun a wq c => ?_
                  have e_0 : a.eval (.tmp 123) = .complex .f64 (fl (redP (pn : Int))) (fl (redQ (pn : Int))) := (c.new 17 123 (by kernel_rfl) (by kernel_rfl) (by kernel_rfl))
                  obtain ⟨A5, c5, e_1, h5, h6⟩ := (c.got 11 117 (by kernel_rfl) (by kernel_rfl) (by kernel_rfl) rfl : RowNF _ _ _ _)
                  refine ⟨(wanted_plain rfl), .agg #[.slice A5 x.2.1.length c5, .complex .f64 (fl (redP (pn : Int))) (fl (redQ (pn : Int)))], ?_, A5, c5, rfl, h5, h6⟩
                  generalize a.eval = ρ at e_0 e_1 ⊢
                  simp [execOp, e_0, e_1, go_sem]
                · refine opg_makes fun a wq c => ?_
                  obtain ⟨A5, c5, e_0, h5, h6⟩ := (c.got 18 124 (by kernel_rfl) (by kernel_rfl) (by kernel_rfl) rfl : ItNF _ _ _ _)
                  refine ⟨(wanted_plain rfl), .slice (some ⟨wq.heap.size, 0, none⟩) 1 1, wq.alloc (.cells #[.slice A5 x.2.1.length c5, .complex .f64 (fl (redP (pn : Int))) (fl (redQ (pn : Int)))] 62), ?_, Ev.alloc _ _, c.inv.trans (Ev.alloc wq _), wq.heap.size, A5, c5, rfl, Sl.one (et := 62) encJ wq _ _ rfl, h5.ev (Ev.alloc _ _), fun ad ea => ⟨(h6 ad ea).1, Nat.lt_of_lt_of_le (h6 ad ea).2 (Ev.alloc wq _).size⟩⟩
                  simp only at e_0
                  generalize a.eval = ρ at e_0 ⊢
                  simp [execOp, e_0, go_sem]
                · refine opg_value fun a wq c => ⟨(wanted_plain rfl), _, run_assign _ rfl wq, (c.new 20 126 (by kernel_rfl) (by kernel_rfl) (by kernel_rfl))⟩
              · refine  sps_nil
              · refine trn_cons 0 rfl ?_ (trn_nil 1)
                · refine opv_makes fun a wq c st hg => ?_
                  have h0_ : AheadF w4.heap.size (Z1.take k) (a.eval (.tmp 110)) wq := (c.got 4 110 (by kernel_rfl) (by kernel_rfl) (by kernel_rfl) rfl : AheadF _ _ _ _)
                  obtain ⟨h_, A5, c5, e_1, h5, h6, h7⟩ := (c.got 19 125 (by kernel_rfl) (by kernel_rfl) (by kernel_rfl) rfl : OneJF _ _ _ _)
                  obtain ⟨v_, w_, hr_, h1_, h2_, _, _⟩ := run_append_ow (P := Tryz.prog) encJ 41 41 Tryz.underlying41 Tryz.infoItemJ rfl h0_.1 (some ⟨h_, 0, none⟩) 1 1 _ h5 (by rw [List.length_take]; simp; omega) (by rw [List.length_take]; simp; omega) c.inv.size
                  have hp_ := pure_of_append (P := Tryz.prog) PvI encJ 41 41 Tryz.underlying41 Tryz.infoItemJ rfl h0_.1 h_ _ h5 (by rw [List.length_take]; omega) (by rw [List.length_take]; omega) pvi_zero (pvi_j _) h0_.2 hr_
                  refine ⟨wanted_plain rfl, v_, w_, ?_, trivial, ?_, trivial, A5, c5, h1_, hp_, vs_past h0_.1 h0_.2 h2_ h6, fun ad ea => ⟨(h7 ad ea).1, Nat.lt_of_lt_of_le (h7 ad ea).2 h2_.size⟩⟩
                  · exact exec_append (P := Tryz.prog) (o := ⟨some 126, _, _, _, _, _⟩) (T := 41) rfl rfl e_1 hr_
                  · exact ((But.of_ev c.inv).then h2_).ev fun g_ hg_ => (h0_.1.lt (mem_foot.1 hg_)).1
              intro so w7 hI hold hnew hst
              have hnj : NewJF w4.heap.size (Z1.take k) (x.2.1, redP (pn : Int), redQ (pn : Int)) (so 13) w7 := hnew 21 13 (by kernel_rfl) (by kernel_rfl)
              have f0 : so 0 = .slice (some ⟨b, off, none⟩) n cap := hold 0 (by kernel_rfl)
              have f1 : so 1 = undef := hold 1 (by kernel_rfl)
              have f4 : so 4 = .int .i64 (n : Int) := hold 4 (by kernel_rfl)
              have f5 : so 5 = u5 := hold 5 (by kernel_rfl)
              have f6 : so 6 = u6 := hold 6 (by kernel_rfl)
              have f7 : so 7 = u7 := hold 7 (by kernel_rfl)
              have f8 : so 8 = .slice A1 n1 c1 := hold 8 (by kernel_rfl)
              have f9 : so 9 = .int .i64 (i : Int) := hold 9 (by kernel_rfl)
              have f10 : so 10 = .int .i64 (k : Int) := hold 10 (by kernel_rfl)
              have f14 : so 14 = undef := hold 14 (by kernel_rfl)
              have f15 : so 15 = undef := hold 15 (by kernel_rfl)
              have f16 : so 16 = .int .i64 (n : Int) := hold 16 (by kernel_rfl)
              have f17 : so 17 = .slice (some ⟨b, off, none⟩) n cap := hold 17 (by kernel_rfl)
              have f18 : so 18 = .int .i64 (n : Int) := hold 18 (by kernel_rfl)
              have f19 : so 19 = .bool false := hold 19 (by kernel_rfl)
              have f20 : so 20 = u20 := hold 20 (by kernel_rfl)
              have f21 : so 21 = u21 := hold 21 (by kernel_rfl)
              have f22 : so 22 = u22 := hold 22 (by kernel_rfl)
              have f23 : so 23 = u23 := hold 23 (by kernel_rfl)
              have f24 : so 24 = u24 := hold 24 (by kernel_rfl)
              have f25 : so 25 = u25 := hold 25 (by kernel_rfl)
              have f26 : so 26 = u26 := hold 26 (by kernel_rfl)
              have f27 : so 27 = u27 := hold 27 (by kernel_rfl)
              have f28 : so 28 = u28 := hold 28 (by kernel_rfl)
              have f29 : so 29 = u29 := hold 29 (by kernel_rfl)
              have f30 : so 30 = u30 := hold 30 (by kernel_rfl)
              have f31 : so 31 = u31 := hold 31 (by kernel_rfl)
              have f32 : so 32 = u32 := hold 32 (by kernel_rfl)
              have f33 : so 33 = u33 := hold 33 (by kernel_rfl)
              have f34 : so 34 = u34 := hold 34 (by kernel_rfl)
              have f35 : so 35 = u35 := hold 35 (by kernel_rfl)
              have f36 : so 36 = u36 := hold 36 (by kernel_rfl)
              have f37 : so 37 = u37 := hold 37 (by kernel_rfl)
              have f38 : so 38 = u38 := hold 38 (by kernel_rfl)
              have f39 : so 39 = u39 := hold 39 (by kernel_rfl)
              have f40 : so 40 = u40 := hold 40 (by kernel_rfl)
              have f41 : so 41 = u41 := hold 41 (by kernel_rfl)
              have f42 : so 42 = u42 := hold 42 (by kernel_rfl)
              have f132 : so 132 = undef := hold 132 (by kernel_rfl)
              have f133 : so 133 = undef := hold 133 (by kernel_rfl)
              have f134 : so 134 = undef := hold 134 (by kernel_rfl)
              have f135 : so 135 = undef := hold 135 (by kernel_rfl)
              have f136 : so 136 = undef := hold 136 (by kernel_rfl)
              have f137 : so 137 = undef := hold 137 (by kernel_rfl)
              have f138 : so 138 = undef := hold 138 (by kernel_rfl)
              have f139 : so 139 = undef := hold 139 (by kernel_rfl)
              have f140 : so 140 = undef := hold 140 (by kernel_rfl)
              have f141 : so 141 = undef := hold 141 (by kernel_rfl)
              have f142 : so 142 = undef := hold 142 (by kernel_rfl)
              have f143 : so 143 = undef := hold 143 (by kernel_rfl)
              have f144 : so 144 = undef := hold 144 (by kernel_rfl)
              have f145 : so 145 = undef := hold 145 (by kernel_rfl)
              have f146 : so 146 = undef := hold 146 (by kernel_rfl)
              have f147 : so 147 = undef := hold 147 (by kernel_rfl)
              have f148 : so 148 = undef := hold 148 (by kernel_rfl)
              have f149 : so 149 = undef := hold 149 (by kernel_rfl)
              have f150 : so 150 = undef := hold 150 (by kernel_rfl)
              have f151 : so 151 = undef := hold 151 (by kernel_rfl)
              have f107 : so 107 = .slice A1 n1 c1 := hnew 1 107 (by kernel_rfl) (by kernel_rfl)
              have f108 : so 108 = .int .i64 (k : Int) := hnew 2 108 (by kernel_rfl) (by kernel_rfl)
              have f109 : so 109 = .slice A1 k c1 := hnew 3 109 (by kernel_rfl) (by kernel_rfl)
              have f112 : so 112 = .slice (some ⟨b, off, none⟩) n cap := hnew 6 112 (by kernel_rfl) (by kernel_rfl)
              have f113 : so 113 = .int .i64 (i : Int) := hnew 7 113 (by kernel_rfl) (by kernel_rfl)
              have f114 : so 114 = .pointer (some ⟨b, off + i * 2, none⟩) := hnew 8 114 (by kernel_rfl) (by kernel_rfl)
              have f115 : so 115 = .pointer (some ⟨b, off + i * 2, none⟩) := hnew 9 115 (by kernel_rfl) (by kernel_rfl)
              have f116 : so 116 = .slice x.1.1 x.1.2.1 x.1.2.2 := hnew 10 116 (by kernel_rfl) (by kernel_rfl)
              have f118 : so 118 = .slice (some ⟨b, off, none⟩) n cap := hnew 12 118 (by kernel_rfl) (by kernel_rfl)
              have f119 : so 119 = .int .i64 (i : Int) := hnew 13 119 (by kernel_rfl) (by kernel_rfl)
              have f120 : so 120 = .pointer (some ⟨b, off + i * 2, none⟩) := hnew 14 120 (by kernel_rfl) (by kernel_rfl)
              have f121 : so 121 = .pointer (some ⟨b, off + i * 2 + 1, none⟩) := hnew 15 121 (by kernel_rfl) (by kernel_rfl)
              have f122 : so 122 = .complex .f64 (fl (pn : Int)) (fl 0) := hnew 16 122 (by kernel_rfl) (by kernel_rfl)
              have f123 : so 123 = .complex .f64 (fl (redP (pn : Int))) (fl (redQ (pn : Int))) := hnew 17 123 (by kernel_rfl) (by kernel_rfl)
              change Exit.then _ _ .normal ⟨#[so 0, so 1, so 2, so 3, so 4, so 5, so 6, so 7, so 8, so 9, so 10, so 11, so 12, so 13, so 14, so 15, so 16, so 17, so 18, so 19, so 20, so 21, so 22, so 23, so 24, so 25, so 26, so 27, so 28, so 29, so 30, so 31, so 32, so 33, so 34, so 35, so 36, so 37, so 38, so 39, so 40, so 41, so 42, so 43, so 44, so 45, so 46, so 47, so 48, so 49, so 50, so 51, so 52, so 53, so 54, so 55, so 56, so 57, so 58, so 59, so 60, so 61, so 62, so 63, so 64, so 65, so 66, so 67, so 68, so 69, so 70, so 71, so 72, so 73, so 74, so 75, so 76, so 77, so 78, so 79, so 80, so 81, so 82, so 83, so 84, so 85, so 86, so 87, so 88, so 89, so 90, so 91, so 92, so 93, so 94, so 95, so 96, so 97, so 98, so 99, so 100, so 101, so 102, so 103, so 104, so 105, so 106, so 107, so 108, so 109, so 110, so 111, so 112, so 113, so 114, so 115, so 116, so 117, so 118, so 119, so 120, so 121, so 122, so 123, so 124, so 125, so 126, so 127, so 128, so 129, so 130, so 131, so 132, so 133, so 134, so 135, so 136, so 137, so 138, so 139, so 140, so 141, so 142, so 143, so 144, so 145, so 146, so 147, so 148, so 149, so 150, so 151], _⟩ _
              simp only [f0, f1, f4, f5, f6, f7, f8, f9, f10, f14, f15, f16, f17, f18, f19, f20, f21, f22, f23, f24, f25, f26, f27, f28, f29, f30, f31, f32, f33, f34, f35, f36, f37, f38, f39, f40, f41, f42, f132, f133, f134, f135, f136, f137, f138, f139, f140, f141, f142, f143, f144, f145, f146, f147, f148, f149, f150, f151, f107, f108, f109, f112, f113, f114, f115, f116, f118, f119, f120, f121, f122, f123]
              clear hold hnew hst
              generalize so 2 = u2
              generalize so 3 = u3
              generalize so 11 = u11
              generalize so 12 = u12
              generalize so 43 = u43
              generalize so 44 = u44
              generalize so 45 = u45
              generalize so 46 = u46
              generalize so 47 = u47
              generalize so 48 = u48
              generalize so 49 = u49
              generalize so 50 = u50
              generalize so 51 = u51
              generalize so 52 = u52
              generalize so 53 = u53
              generalize so 54 = u54
              generalize so 55 = u55
              generalize so 56 = u56
              generalize so 57 = u57
              generalize so 58 = u58
              generalize so 59 = u59
              generalize so 60 = u60
              generalize so 61 = u61
              generalize so 62 = u62
              generalize so 63 = u63
              generalize so 64 = u64
              generalize so 65 = u65
              generalize so 66 = u66
              generalize so 67 = u67
              generalize so 68 = u68
              generalize so 69 = u69
              generalize so 70 = u70
              generalize so 71 = u71
              generalize so 72 = u72
              generalize so 73 = u73
              generalize so 74 = u74
              generalize so 75 = u75
              generalize so 76 = u76
              generalize so 77 = u77
              generalize so 78 = u78
              generalize so 79 = u79
              generalize so 80 = u80
              generalize so 81 = u81
              generalize so 82 = u82
              generalize so 83 = u83
              generalize so 84 = u84
              generalize so 85 = u85
              generalize so 86 = u86
              generalize so 87 = u87
              generalize so 88 = u88
              generalize so 89 = u89
              generalize so 90 = u90
              generalize so 91 = u91
              generalize so 92 = u92
              generalize so 93 = u93
              generalize so 94 = u94
              generalize so 95 = u95
              generalize so 96 = u96
              generalize so 97 = u97
              generalize so 98 = u98
              generalize so 99 = u99
              generalize so 100 = u100
              generalize so 101 = u101
              generalize so 102 = u102
              generalize so 103 = u103
              generalize so 104 = u104
              generalize so 105 = u105
              generalize so 106 = u106
              generalize so 107 = u107
              generalize so 108 = u108
              generalize so 109 = u109
              generalize so 110 = u110
              generalize so 111 = u111
              generalize so 112 = u112
              generalize so 113 = u113
              generalize so 114 = u114
              generalize so 115 = u115
              generalize so 116 = u116
              generalize so 117 = u117
              generalize so 118 = u118
              generalize so 119 = u119
              generalize so 120 = u120
              generalize so 121 = u121
              generalize so 122 = u122
              generalize so 123 = u123
              generalize so 124 = u124
              generalize so 125 = u125
              generalize so 126 = u126
              generalize so 127 = u127
              generalize so 128 = u128
              generalize so 129 = u129
              generalize so 130 = u130
              generalize so 131 = u131

              obtain ⟨A5, c5, hj1, hj2, hj3, hj4⟩ := hnj
              have hE7 : Ev w4 w7 := hI
              clear hI
              have HRW := Lib.hid (HMS.out.ev ((HEQ.out).trans hE7))
              have hfr := HRW.out.sl.from_ hkn
              have hbe : w.heap.size ≤ w7.heap.size := (HEE.out.trans (HEQ.out.trans hE7)).size
              have hw4 : w.heap.size ≤ w4.heap.size := (HEE.out.trans HEQ.out).size
              have hdl : (Z1.drop k).length = n1 - k := by rw [List.length_drop, HZL.out]
              have htl : (Z1.take k).length ≤ 500000 := by rw [List.length_take]; omega
              have HNJ : Hid (Ow 62 2 jcells w.heap.size w7 (so 13) (Z1.take k ++ [((A5, x.2.1.length, c5), (x.2.1, redP (pn : Int), redQ (pn : Int)))]) ∧ OwP PvI w7 (so 13) ∧ Vs w7 A5 x.2.1.length c5 x.2.1 ∧ ∀ ad, A5 = some ad → w.heap.size ≤ ad.block ∧ ad.block < w7.heap.size) := Lib.hid ⟨Ow.lowB (base := w4.heap.size) hj1 hw4, hj2, hj3, fun ad ea => ⟨Nat.le_trans hw4 (hj4 ad ea).1, (hj4 ad ea).2⟩⟩
              obtain ⟨v9, w9, hr9, hA9, hP9⟩ := run_append_owP (P := Tryz.prog) PvI encJ 41 41 Tryz.underlying41 Tryz.infoItemJ rfl HNJ.out.1 (by simp) _ _ _ _ hfr (by rw [hdl, List.length_append]; simp; omega) (by rw [hdl, List.length_append]; simp; omega) hbe pvi_zero (fun z _ => pvi_j z) HNJ.out.2.1
              have hnx := HRW.out.grown_ (x := (x.2.1, redP (pn : Int), redQ (pn : Int))) HNJ.out.1 HNJ.out.2.1 HNJ.out.2.2.1 HNJ.out.2.2.2 HXN.out hA9 hP9
              have HE9 : Hid (Ev w w9) := Lib.hid (((But.of_ev (HEE.out.trans (HEQ.out.trans hE7))).then hA9.2.1).ev fun g_ hg_ => (HNJ.out.1.lt (mem_foot.1 hg_)).1)
              obtain ⟨A9, c9, hv9, _⟩ := hnx.own.form encJ
              subst hv9
              have HNX := Lib.hid hnx
              generalize (Z1.take k ++ (((A5, x.2.1.length, c5), (x.2.1, redP (pn : Int), redQ (pn : Int))) : J) :: Z1.drop k).length = n9 at *
              clear hj1 hj2 hj3 hj4 hfr hbe hw4 hdl htl hA9 hP9 hE7 HRW hnx HNJ
              generalize so 13 = v13 at *
              obtain ⟨A3, hA3⟩ : ∃ A3, fromS 2 A1 c1 k = A3 := ⟨_, rfl⟩
              rw [hA3, show n1 - k = 0 from by omega] at hr9
              unfold fromS at hA3
              go_wp2_with (first
                | (at_builtin; refine Lib.wpList_append_run _ rfl _ _ _ _ rfl _ _ rfl rfl _ _ hr9 ?_))
              go_roundw
              case rel => exact ⟨A9, n9, c9, i + 1, _, rfl, by go_num, by omega, HNX, Lib.hid ⟨by
                rw [items_new]
                have h9 := (mk_new HPS.out.1 (by omega) (by rw [itemsOf_length, HZL.out]; exact hkn) HAX.out HLL.out HGG.out).1
                rw [HAX.out.net, HPN.out] at h9
                exact ⟨h9.z.more (by omega), h9.nn⟩, fun f => by
                rw [items_new]
                have h9 := (mk_new HPS.out.1 (by omega) (by rw [itemsOf_length, HZL.out]; exact hkn) HAX.out HLL.out HGG.out).2 f
                rw [HAX.out.net, HPN.out] at h9
                rw [h9, HPS.out.2 f, HTK.out, netS_append, netS_cons, netS_nil, HAX.out.net, HPN.out]
                omega⟩, HE9⟩
              case measure => simp [intOf]; omega
        · obtain rfl : n = i := by omega
          have HMT := Lib.hid (show Z1.length = n1 from HMS.out.sl.len)
          have HZN : Hid ((itemsOf Z).take n = itemsOf Z) := Lib.hid (List.take_of_length_le (by rw [itemsOf_length, HL.out]; exact Nat.le_refl _))
          have hn1c := HMS.out.sl.le
          have hn1m := HMS.out.sl.max
          have hml := zok_len HPS.out.1.z
          rw [itemsOf_length, HMT.out] at hml
          have j2 : ¬ (n : Int) < (n : Int) := by omega
          clear hlt hi
          go_wp2
          go_loopw [14, 15] (fun ov kv wq => ∃ (A2 : Option Addr) (c2 k : Nat), ov = .slice A2 k c2 ∧ kv = .int .i64 (k : Int) ∧ k ≤ n1 ∧ Hid (Ow 62 2 jcells wr.heap.size wq (.slice A2 k c2) (Z1.take k) ∧ OwP PvI wq (.slice A2 k c2)) ∧ Hid (Ev wr wq)) (fun _ kv _ => n1 - (intOf kv).toNat)
          case atStart => exact ⟨none, 0, 0, rfl, rfl, Nat.zero_le _, Lib.hid (by rw [List.take_zero]; exact ⟨Ow.nil_ _, OwP.none_ _ _ _ _⟩), Lib.hid (Ev.refl _)⟩
          case round =>
            rename World => wo
            obtain ⟨A2, c2, k, rfl, rfl, hkn, HM2, HE2⟩ := hrel
            by_cases hlk : k < n1
            · obtain ⟨g, rfl⟩ := HMS.out.some_ (by omega)
              obtain ⟨y, hy⟩ : ∃ y, Z1[k]? = some y := ⟨_, List.getElem?_eq_getElem (by rw [HMT.out]; exact hlk)⟩
              have hym := List.mem_of_getElem? hy
              have hyi : (itemsOf Z1)[k]? = some y.2 := by unfold itemsOf; rw [List.getElem?_map, hy]; rfl
              have hyad := HPS.out.1.nn.adds HPS.out.1.z y.2 (List.mem_of_getElem? hyi)
              have hyp := HPS.out.1.z.parts y.2 (List.mem_of_getElem? hyi)
              have HMW := Lib.hid (HMS.out.ev HE2.out)
              obtain ⟨hyb, y0, y1, _, HYV⟩ := HMW.out.cell hy
              have HAPP := Lib.hid (run_app_item HM2.out.1 HM2.out.2 y HE2.out (by rw [List.length_take]; omega))
              have HTK : Hid (Z1.take (k + 1) = Z1.take k ++ [y]) := Lib.hid (by
                obtain ⟨hk2, e1⟩ := List.getElem?_eq_some_iff.1 hy
                rw [List.take_succ_eq_append_getElem hk2, e1])
              have HNE : Hid ((!(decide (y.2.2.1 = 0) && decide (y.2.2.2 = 0))) = true) := Lib.hid (by rw [decide_eq_false (by omega)]; rfl)
              have HPT := Lib.hid hyp
              have HZP : Hid (Part 0) := Lib.hid ⟨by decide, by decide⟩
              have j1 : (0 : Int) ≤ (k : Int) := by omega
              have j3 : (k : Int) < (n1 : Int) := by omega
              obtain ⟨A9, c9, w9, hr9, h9, hp9, hE9⟩ := HAPP.out
              have HM9 := Lib.hid (And.intro h9 hp9)
              have HE9 := Lib.hid hE9
              clear h9 hp9 hE9 HYV hy hym hyi hyad hyp
              unfold jrow at y0
              unfold jtal at y1
              go_wp2_with (first
                | ((show wpList _ _ _ (⟨some 143, _, _, _, _, _⟩ :: _) _ _); refine wpList_run rfl (run_neq_tal (p := y.2.2.1) (q := y.2.2.2) (p' := 0) (q' := 0) rfl rfl (by rw [fl_zero]; rfl) HPT.out.1 HPT.out.2 HZP.out HZP.out _) ?_; rw [HNE.out])
                | (at_builtin; refine Lib.wpList_append_run _ rfl _ _ _ _ rfl _ _ rfl rfl _ _ hr9 ?_))
              go_roundw
              case rel => exact ⟨A9, c9, k + 1, rfl, by go_num, by omega, Lib.hid (by rw [HTK.out]; exact HM9.out), HE9⟩
              case measure => simp [intOf]; omega
            · have hkk : k = n1 := by omega
              have j3 : ¬ (k : Int) < (n1 : Int) := by omega
              go_wp2
              go_ret2
              subst hkk
              have h9 := HM2.out
              rw [show Z1.take k = Z1 by rw [List.take_of_length_le]; rw [HMT.out]; exact Nat.le_refl _] at h9
              have h8 : MkSt w (.slice A2 k c2) Z1 wo := ⟨Ow.lowB h9.1 HEE.out.size, h9.2, (HMS.out.ev HE2.out).rows, HMS.out.right⟩
              have h7 : (itemsOf Z1).length = k := by rw [itemsOf_length, HMT.out]
              refine ⟨itemsOf Z1, A2, c2, by rw [h7]; rfl, by rw [h7]; exact h8.set_, HPS.out.1, fun f => ?_, HEE.out.trans HE2.out⟩
              rw [HPS.out.2 f, HZN.out, HZI.out]

end Go.Proofs.YthpiobkghfdkkaaGreat
