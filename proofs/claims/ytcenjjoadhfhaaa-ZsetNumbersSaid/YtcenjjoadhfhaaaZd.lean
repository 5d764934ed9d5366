/-
  The contract of package zset: merge.
-/
import Derived.Test.YtcenjjoadhfhaaaZc
namespace Go.Proofs.Ytcenjjoadhfhaaa
open Go.RowKit
set_option linter.unusedVariables false

/-- A new slice of one item. -/
theorem run_build_item {ρ : Operand → Value} {o : Oper} {x : Operand} {z : J} (ho : o.op = .buildSlice 23 1 #[(0, x)]) (h : ρ x = jv z) (w : World) :
    (execOp ρ o).run Try.prog w = .ok (.value (.slice (some ⟨w.heap.size, 0, none⟩) 1 1)) (w.alloc (.cells #[jrow z, jtal z] 31)) := by
  unfold jv jrow jtal at h
  unfold jrow jtal
  unfold execOp
  rw [ho]
  simp [h, go_sem]
def OneItem (g0 : Nat) (z : J) (v : Value) (w : World) : Prop := ∃ p, v = .slice (some ⟨p, 0, none⟩) 1 1 ∧ Js w (some ⟨p, 0, none⟩) 1 1 [z] ∧ g0 ≤ p ∧ p < w.heap.size
theorem OneItem.mono {g0 : Nat} {z : J} : Mono (OneItem g0 z) := fun v w w' hE ⟨p, e, h, hg, hp⟩ => ⟨p, e, h.ev hE, hg, Nat.lt_of_lt_of_le hp hE.size⟩
theorem OneItem.monoB {g0 : Nat} {z : J} {K : List Nat} (hK : ∀ k ∈ K, k < g0) : MonoB K (OneItem g0 z) := fun v w w' hE ⟨p, e, h, hg, hp⟩ => ⟨p, e, h.but hE (by rintro ad ⟨⟩ hm; have := hK _ hm; simp only at this; omega), hg, Nat.lt_of_lt_of_le hp hE.size⟩
theorem OneItem.new {w0 w : World} {z : J} (h : w0.heap.size ≤ w.heap.size) : OneItem w0.heap.size z (.slice (some ⟨w.heap.size, 0, none⟩) 1 1) (w.alloc (.cells #[jrow z, jtal z] 31)) := ⟨w.heap.size, rfl, Js.one w z, h, by simp⟩
/-- The slice v, which was vk in w4, holds the items now. -/
def Grown2 (w4 : World) (vk : Value) (Z : List J) (v : Value) (w : World) : Prop := Zrow w v Z ∧ Sprung w4 vk v
theorem Grown2.mono {w4 : World} {vk : Value} {Z : List J} : Mono (Grown2 w4 vk Z) := fun v w w' hE ⟨h, hs⟩ => ⟨h.ev hE, hs⟩
theorem Sprung.after {w0 w : World} {a b : Value} (h : Sprung w a b) (hs : w0.heap.size ≤ w.heap.size) : Sprung w0 a b := fun g hg => (h g hg).imp id fun h1 => Nat.le_trans hs h1
theorem OneItem.append {w4 w : World} {z : J} {v vk : Value} {Z : List J} (h : OneItem w4.heap.size z v w) (T ty : TypeId)
    (ht : Try.prog.underlying T = some (.slice 31)) (hi : (Try.prog.info? 31).map (fun i => (i.zero, i.size, i.bytes)) = some (some (.agg #[.slice none 0 0, .complex .f64 0 0]), 2, 40))
    (hE : Ev w4 w) (hZ : Zrow w4 vk Z) (hv : Vs w4 z.1.1 z.1.2.1 z.1.2.2 z.2.1) (hb : ∀ ad, z.1.1 = some ad → ad.block < w4.heap.size ∧ vk.ownBlock ≠ some ad.block) (hsz : (Z.length + 1) * 40 ≤ 140737488355328) :
    ∃ v' w', (Builtin.append_ #[T, T] ty #[vk, v]).run Try.prog w = .ok v' w' ∧ Grown2 w4 vk (Z ++ [z]) v' w' ∧ But (foot vk) w w' := by
  obtain ⟨p, rfl, hJ, _, _⟩ := h
  obtain ⟨v', w', hr, hz, hbt, hsp⟩ := run_append_items (P := Try.prog) (w := w) T ty ht hi vk Z (hZ.ev hE) (some ⟨p, 0, none⟩) 1 1 [z] hJ (fun x hx => by
    rw [List.mem_singleton.1 hx]
    exact ⟨hv.ev hE, fun ad e => ⟨Nat.lt_of_lt_of_le (hb ad e).1 hE.size, (hb ad e).2⟩⟩) hsz
  exact ⟨v', w', hr, ⟨hz, hsp.after hE.size⟩, hbt⟩
theorem mergeF_less {X Y : List J} {x y : J} (hx : X[0]? = some x) (hy : Y[0]? = some y) (h : lessR y.2.1 x.2.1 = true) : mergeF keyJ X Y = y :: mergeF keyJ X (Y.drop 1) := by
  cases X with
  | nil => simp at hx
  | cons a X =>
    cases Y with
    | nil => simp at hy
    | cons b Y =>
      simp at hx hy
      subst hx; subst hy
      rw [mergeF, if_pos (show lessR (keyJ b) (keyJ a) = true from h)]; rfl
theorem mergeF_nless {X Y : List J} {x y : J} (hx : X[0]? = some x) (hy : Y[0]? = some y) (h : lessR y.2.1 x.2.1 = false) : mergeF keyJ X Y = x :: mergeF keyJ (X.drop 1) Y := by
  cases X with
  | nil => simp at hx
  | cons a X =>
    cases Y with
    | nil => simp at hy
    | cons b Y =>
      simp at hx hy
      subst hx; subst hy
      rw [mergeF, if_neg (show ¬ lessR (keyJ b) (keyJ a) = true by unfold keyJ; rw [h]; exact Bool.false_ne_true)]; rfl
def slen : Value → Nat
  | .slice _ n _ => n
  | _ => 0
/-- What a merge has come to. -/
structure Merging (b0 : Nat) (w : World) (v : Value) (M X Y : List J) (N : Nat) (vk : Value) (P : List J) (A1 : Option Addr) (n1 c1 : Nat) (X1 : List J) (A2 : Option Addr) (m1 c2 : Nat) (Y1 : List J) (wr : World) : Prop where
  own : Zrow wr vk (M ++ P)
  a : Zs b0 wr A1 n1 c1 X1
  b : Zs b0 wr A2 m1 c2 Y1
  eq : mergeF keyJ X Y = P ++ mergeF keyJ X1 Y1
  but : But (foot v) w wr
  spr : Sprung w v vk
  high : ∀ g, vk.ownBlock = some g → b0 ≤ g
  size : P.length + n1 + m1 = N
theorem Merging.foot_lt {b0 : Nat} {w : World} {v : Value} {M X Y : List J} {N : Nat} {vk : Value} {P : List J} {A1 : Option Addr} {n1 c1 : Nat} {X1 : List J} {A2 : Option Addr} {m1 c2 : Nat} {Y1 : List J} {wr : World} (h : Merging b0 w v M X Y N vk P A1 n1 c1 X1 A2 m1 c2 Y1 wr) {w' : World} (hs : wr.heap.size ≤ w'.heap.size) :
    ∀ k ∈ foot vk, k < w'.heap.size := fun k hk => Nat.lt_of_lt_of_le (h.own.lt (mem_foot.1 hk)) hs
theorem Merging.ev {b0 : Nat} {w : World} {v : Value} {M X Y : List J} {N : Nat} {vk : Value} {P : List J} {A1 : Option Addr} {n1 c1 : Nat} {X1 : List J} {A2 : Option Addr} {m1 c2 : Nat} {Y1 : List J} {wr w' : World} (h : Merging b0 w v M X Y N vk P A1 n1 c1 X1 A2 m1 c2 Y1 wr) (hE : Ev wr w') : Merging b0 w v M X Y N vk P A1 n1 c1 X1 A2 m1 c2 Y1 w' :=
  ⟨h.own.ev hE, h.a.ev hE, h.b.ev hE, h.eq, h.but.then (But.of_ev hE), h.spr, h.high, h.size⟩
/-- A row of the two lists lies where the own slice does not. -/
theorem Merging.apart {b0 : Nat} {w : World} {vk : Value} {A1 : Option Addr} {n1 c1 : Nat} {X1 : List J} (ha : Zs b0 w A1 n1 c1 X1) (high : ∀ g, vk.ownBlock = some g → b0 ≤ g) {z : J} (hz : z ∈ X1) : ∀ ad, z.1.1 = some ad → ad.block < w.heap.size ∧ vk.ownBlock ≠ some ad.block := fun ad e => by
  have h1 := (ha.rows z hz).2 ad e
  exact ⟨Nat.lt_of_lt_of_le h1 ha.base, fun e' => by have := high _ e'; omega⟩
theorem Merging.next {b0 : Nat} {w : World} {v : Value} {M X Y : List J} {N : Nat} {vk : Value} {P : List J} {A1 : Option Addr} {n1 c1 : Nat} {X1 : List J} {A2 : Option Addr} {m1 c2 : Nat} {Y1 : List J} {wr w' : World} (h : Merging b0 w v M X Y N vk P A1 n1 c1 X1 A2 m1 c2 Y1 wr) (hB : But (foot vk) wr w') {vn : Value} {P' : List J} (hG : Grown2 wr vk (M ++ P') vn w')
    {A1' : Option Addr} {n1' c1' : Nat} {X1' : List J} {A2' : Option Addr} {m1' c2' : Nat} {Y1' : List J} (ha : Zs b0 wr A1' n1' c1' X1') (hb : Zs b0 wr A2' m1' c2' Y1') (he : mergeF keyJ X Y = P' ++ mergeF keyJ X1' Y1') (hs : P'.length + n1' + m1' = N) :
    Merging b0 w v M X Y N vn P' A1' n1' c1' X1' A2' m1' c2' Y1' w' := by
  have hbl : Below b0 wr w' := hB.below h.a.base fun k hk => h.high k (mem_foot.1 hk)
  refine ⟨hG.1, ha.below hbl, hb.below hbl, he, h.but.trans hB fun k hk => ?_, h.spr.trans hG.2 h.but.size, fun g hg => ?_, hs⟩
  · rcases h.spr k (mem_foot.1 hk) with h1 | h1
    · exact .inl (mem_foot.2 h1)
    · exact .inr h1
  · rcases hG.2 g hg with h1 | h1
    · exact h.high g h1
    · exact Nat.le_trans h.a.base h1
section
variable {b0 : Nat} {w : World} {v : Value} {M X Y : List J} {N : Nat} {vk : Value} {P : List J} {A1 : Option Addr} {n1 c1 : Nat} {X1 : List J} {A2 : Option Addr} {m1 c2 : Nat} {Y1 : List J} {wr : World}
theorem Merging.rowsA (h : Merging b0 w v M X Y N vk P A1 n1 c1 X1 A2 m1 c2 Y1 wr) : ∀ z ∈ X1, Vs wr z.1.1 z.1.2.1 z.1.2.2 z.2.1 ∧ ∀ ad, z.1.1 = some ad → ad.block < wr.heap.size ∧ vk.ownBlock ≠ some ad.block := fun z hz => ⟨(h.a.rows z hz).1, Merging.apart h.a h.high hz⟩
theorem Merging.rowsB (h : Merging b0 w v M X Y N vk P A1 n1 c1 X1 A2 m1 c2 Y1 wr) : ∀ z ∈ Y1, Vs wr z.1.1 z.1.2.1 z.1.2.2 z.2.1 ∧ ∀ ad, z.1.1 = some ad → ad.block < wr.heap.size ∧ vk.ownBlock ≠ some ad.block := fun z hz => ⟨(h.b.rows z hz).1, Merging.apart h.b h.high hz⟩
theorem Merging.putA (h : Merging b0 w v M X Y N vk P A1 n1 c1 X1 A2 m1 c2 Y1 wr) (hm : mergeF keyJ X1 Y1 = X1 ++ Y1) {vn : Value} {w' : World} (hG : Grown2 wr vk (M ++ (P ++ X1)) vn w') (hB : But (foot vk) wr w') : Merging b0 w v M X Y N vn (P ++ X1) none 0 0 [] A2 m1 c2 Y1 w' :=
  h.next hB hG (Zs.nil_ h.a.base) h.b (by rw [h.eq, hm, mergeF_nil, List.append_assoc]) (by have := h.size; rw [List.length_append, h.a.len]; omega)
theorem Merging.putB (h : Merging b0 w v M X Y N vk P none 0 0 [] A2 m1 c2 Y1 wr) {vn : Value} {w' : World} (hG : Grown2 wr vk (M ++ (P ++ Y1)) vn w') (hB : But (foot vk) wr w') : Merging b0 w v M X Y N vn (P ++ Y1) none 0 0 [] none 0 0 [] w' :=
  h.next hB hG (Zs.nil_ h.a.base) (Zs.nil_ h.a.base) (by rw [h.eq, mergeF_nil, mergeF_nil, List.append_nil]) (by have := h.size; rw [List.length_append, h.b.len]; omega)
end

set_option maxRecDepth 100000 in
set_option maxHeartbeats 8000000 in
theorem zset_merge {b0 : Nat} {v : Value} {A : Option Addr} {n cap : Nat} {X : List J} {A' : Option Addr} {m cap' : Nat} {Y M : List J} (w : World) (hv : Zrow w v M) (hhigh : ∀ g, v.ownBlock = some g → b0 ≤ g) (ha : Zs b0 w A n cap X) (hb : Zs b0 w A' m cap' Y) (hsz : M.length + n + m ≤ 1000000000000) :
    Calls Try.prog 49 #[v, .slice A n cap, .slice A' m cap'] w fun e w' => ∃ v', e = .returned v' ∧ Zrow w' v' (M ++ mergeF keyJ X Y) ∧ (∀ g, v'.ownBlock = some g → b0 ≤ g) ∧ But (foot v) w w' ∧ Sprung w v v' := by
  have hmix : Try.prog.follows .mixedOrders = true := by kernel_rfl
  have HSTART : Hid (Merging b0 w v M X Y (n + m) v [] A n cap X A' m cap' Y w) := Lib.hid ⟨by simpa using hv, ha, hb, rfl, But.refl _ _, Sprung.refl _ _, hhigh, by simp⟩
  clear hv hhigh ha hb
  go_enter Try.func49, Try.ntmps49
  go_wp2
  go_loopw [0, 1, 2] (fun vk av bv wr => ∃ P A1 n1 c1 X1 A2 m1 c2 Y1, av = .slice A1 n1 c1 ∧ bv = .slice A2 m1 c2 ∧ Hid (Merging b0 w v M X Y (n + m) vk P A1 n1 c1 X1 A2 m1 c2 Y1 wr)) (fun _ av bv _ => slen av + slen bv)
  case atStart => exact ⟨[], A, n, cap, X, A', m, cap', Y, rfl, rfl, HSTART⟩
  case round =>
    obtain ⟨P, A1, n1, c1, X1, A2, m1, c2, Y1, rfl, rfl, HM⟩ := hrel
    obtain ⟨vk, hvk⟩ : ∃ vk, vk = u0 := ⟨_, rfl⟩
    rw [← hvk] at HM ⊢
    clear hvk
    have hn1 := HM.out.a.le
    have hm1 := HM.out.b.le
    have hc1 := HM.out.a.max
    have hc2 := HM.out.b.max
    have hN := HM.out.size
    by_cases k1 : 0 < n1
    · have i1 : (0 : Int) < (n1 : Int) := by omega
      by_cases k2 : 0 < m1
      · have i2 : (0 : Int) < (m1 : Int) := by omega
        obtain ⟨b1, off1, z1, rfl, hb1, hl1, hx1, c0, c1_, hv1⟩ := HM.out.a.at k1
        obtain ⟨b2, off2, z2, rfl, hb2, hl2, hx2, d0, d1, hv2⟩ := HM.out.b.at k2
        rw [Nat.zero_mul, Nat.add_zero] at c0 c1_ d0 d1
        have j1 : ¬ n1 = 0 := by omega
        have j2 : ¬ m1 = 0 := by omega
        have HL := Lib.hid (fun w1 (h1 : Ev wr w1) => row_less w1 (hv2.ev h1) (hv1.ev h1))
        have HX1 := Lib.hid hx1
        have HX2 := Lib.hid hx2
        have HV1 := Lib.hid hv1
        have HV2 := Lib.hid hv2
        have c0r : wr.cell? ⟨b1, off1, none⟩ = some (.slice z1.1.1 z1.1.2.1 z1.1.2.2) := c0
        have d0r : wr.cell? ⟨b2, off2, none⟩ = some (.slice z2.1.1 z2.1.2.1 z2.1.2.2) := d0
        have HNB : Hid (b1 ∉ foot vk ∧ b2 ∉ foot vk) := Lib.hid ⟨fun hm => (by have := HM.out.high _ (mem_foot.1 hm); omega), fun hm => (by have := HM.out.high _ (mem_foot.1 hm); omega)⟩
        have HNB_z1 := Lib.hid (fun w1 (h1 : Ev wr w1) => Merging.apart (w := w1) (HM.out.a.ev h1) HM.out.high (List.mem_of_getElem? hx1))
        have HNB_z2 := Lib.hid (fun w1 (h1 : Ev wr w1) => Merging.apart (w := w1) (HM.out.b.ev h1) HM.out.high (List.mem_of_getElem? hx2))
        have HSZ : Hid (((M ++ P).length + 1) * 40 ≤ 140737488355328) := Lib.hid (by rw [List.length_append]; omega)
        clear hv1 hv2 hx1 hx2 hl1 hl2
        generalize hl : lessR z2.2.1 z1.2.1 = ls at HL
        have HLS := Lib.hid hl
        clear hl
        cases ls
        · go_wp2_with fail
          refine wp_region_slots hmix [fun v _ => v = .slice (some ⟨b2, off2, none⟩) m1 c2, fun v _ => v = .pointer (some ⟨b2, off2, none⟩), fun v _ => v = .pointer (some ⟨b2, off2, none⟩), fun v _ => v = .slice z2.1.1 z2.1.2.1 z2.1.2.2, fun v _ => v = .slice (some ⟨b1, off1, none⟩) n1 c1, fun v _ => v = .pointer (some ⟨b1, off1, none⟩), fun v _ => v = .pointer (some ⟨b1, off1, none⟩), fun v _ => v = .slice z1.1.1 z1.1.2.1 z1.1.2.2, fun v _ => v = .bool false]
            45 rfl (by kernel_rfl) ⟨mono_eq _, mono_eq _, mono_eq _, mono_eq _, mono_eq _, mono_eq _, mono_eq _, mono_eq _, mono_eq _, trivial⟩ ?_ ?_
          · refine ops_cons 0 ?_ (ops_cons 1 ?_ (ops_cons 2 ?_ (ops_cons 3 ?_ (ops_cons 4 ?_ (ops_cons 5 ?_ (ops_cons 6 ?_ (ops_cons 7 ?_ (ops_cons 8 ?_ (ops_nil 9)))))))))
            · refine op_value fun a w c => ⟨(wanted_plain rfl), _, run_move _ rfl w, (c.was 2 (by kernel_rfl) rfl)⟩
            · refine op_value fun a w c => ⟨(wanted_plain rfl), .pointer (some ⟨b2, off2, none⟩), ?_, rfl⟩
              have e15 : a.eval (.tmp 15) = .slice (some ⟨b2, off2, none⟩) m1 c2 := (c.new 0 15 (by kernel_rfl) (by kernel_rfl))
              have kc0 : a.eval (.const (.int .i64 0)) = .int .i64 0 := rfl
              generalize a.eval = ρ at e15 kc0 ⊢
              simp [execOp, e15, kc0, go_sem, j2]
            · refine op_value fun a w c => ⟨(wanted_plain rfl), .pointer (some ⟨b2, off2, none⟩), ?_, rfl⟩
              have e16 : a.eval (.tmp 16) = .pointer (some ⟨b2, off2, none⟩) := (c.new 1 16 (by kernel_rfl) (by kernel_rfl))
              generalize a.eval = ρ at e16 ⊢
              simp [execOp, e16, go_sem]
            · refine op_value fun a w c => ⟨(wanted_plain rfl), .slice z2.1.1 z2.1.2.1 z2.1.2.2, ?_, rfl⟩
              have e17 : a.eval (.tmp 17) = .pointer (some ⟨b2, off2, none⟩) := (c.new 2 17 (by kernel_rfl) (by kernel_rfl))
              have hc := (c.ev.cell (p := ⟨b2, off2, none⟩) hb2).trans d0r
              generalize a.eval = ρ at e17 ⊢
              simp [execOp, e17, hc, go_sem]
            · refine op_value fun a w c => ⟨(wanted_plain rfl), _, run_move _ rfl w, (c.was 1 (by kernel_rfl) rfl)⟩
            · refine op_value fun a w c => ⟨(wanted_plain rfl), .pointer (some ⟨b1, off1, none⟩), ?_, rfl⟩
              have e19 : a.eval (.tmp 19) = .slice (some ⟨b1, off1, none⟩) n1 c1 := (c.new 4 19 (by kernel_rfl) (by kernel_rfl))
              have kc0 : a.eval (.const (.int .i64 0)) = .int .i64 0 := rfl
              generalize a.eval = ρ at e19 kc0 ⊢
              simp [execOp, e19, kc0, go_sem, j1]
            · refine op_value fun a w c => ⟨(wanted_plain rfl), .pointer (some ⟨b1, off1, none⟩), ?_, rfl⟩
              have e20 : a.eval (.tmp 20) = .pointer (some ⟨b1, off1, none⟩) := (c.new 5 20 (by kernel_rfl) (by kernel_rfl))
              generalize a.eval = ρ at e20 ⊢
              simp [execOp, e20, go_sem]
            · refine op_value fun a w c => ⟨(wanted_plain rfl), .slice z1.1.1 z1.1.2.1 z1.1.2.2, ?_, rfl⟩
              have e21 : a.eval (.tmp 21) = .pointer (some ⟨b1, off1, none⟩) := (c.new 6 21 (by kernel_rfl) (by kernel_rfl))
              have hc := (c.ev.cell (p := ⟨b1, off1, none⟩) hb1).trans c0r
              generalize a.eval = ρ at e21 ⊢
              simp [execOp, e21, hc, go_sem]
            · refine op_call fun a w c => ⟨(wanted_plain rfl), 28, #[.slice z2.1.1 z2.1.2.1 z2.1.2.2, .slice z1.1.1 z1.1.2.1 z1.1.2.2], ?_, ?_⟩
              · rw [run_call 28 _ _ rfl (by kernel_rfl)]
                have e18 : a.eval (.tmp 18) = .slice z2.1.1 z2.1.2.1 z2.1.2.2 := (c.new 3 18 (by kernel_rfl) (by kernel_rfl))
                have e22 : a.eval (.tmp 22) = .slice z1.1.1 z1.1.2.1 z1.1.2.2 := (c.new 7 22 (by kernel_rfl) (by kernel_rfl))
                simp [e18, e22]
              · refine (HL.out w c.ev).mono ?_
                rintro e w2 ⟨rfl, hE⟩
                exact ⟨_, rfl, hE, rfl⟩
          intro s w4 hEr hold hnew
          have f0 : s 0 = vk := hold 0 (by kernel_rfl)
          have f1 : s 1 = .slice (some ⟨b1, off1, none⟩) n1 c1 := hold 1 (by kernel_rfl)
          have f2 : s 2 = .slice (some ⟨b2, off2, none⟩) m1 c2 := hold 2 (by kernel_rfl)
          have f3 : s 3 = undef := hold 3 (by kernel_rfl)
          have f4 : s 4 = undef := hold 4 (by kernel_rfl)
          have f5 : s 5 = undef := hold 5 (by kernel_rfl)
          have f6 : s 6 = .slice none 0 0 := hold 6 (by kernel_rfl)
          have f40 : s 40 = undef := hold 40 (by kernel_rfl)
          have f41 : s 41 = undef := hold 41 (by kernel_rfl)
          have f42 : s 42 = undef := hold 42 (by kernel_rfl)
          have f43 : s 43 = undef := hold 43 (by kernel_rfl)
          have f44 : s 44 = undef := hold 44 (by kernel_rfl)
          have f15 : s 15 = .slice (some ⟨b2, off2, none⟩) m1 c2 := hnew 0 15 (by kernel_rfl)
          have f16 : s 16 = .pointer (some ⟨b2, off2, none⟩) := hnew 1 16 (by kernel_rfl)
          have f17 : s 17 = .pointer (some ⟨b2, off2, none⟩) := hnew 2 17 (by kernel_rfl)
          have f18 : s 18 = .slice z2.1.1 z2.1.2.1 z2.1.2.2 := hnew 3 18 (by kernel_rfl)
          have f19 : s 19 = .slice (some ⟨b1, off1, none⟩) n1 c1 := hnew 4 19 (by kernel_rfl)
          have f20 : s 20 = .pointer (some ⟨b1, off1, none⟩) := hnew 5 20 (by kernel_rfl)
          have f21 : s 21 = .pointer (some ⟨b1, off1, none⟩) := hnew 6 21 (by kernel_rfl)
          have f22 : s 22 = .slice z1.1.1 z1.1.2.1 z1.1.2.2 := hnew 7 22 (by kernel_rfl)
          have f23 : s 23 = .bool false := hnew 8 23 (by kernel_rfl)
          change Exit.then _ _ .normal ⟨#[s 0, s 1, s 2, s 3, s 4, s 5, s 6, s 7, s 8, s 9, s 10, s 11, s 12, s 13, s 14, s 15, s 16, s 17, s 18, s 19, s 20, s 21, s 22, s 23, s 24, s 25, s 26, s 27, s 28, s 29, s 30, s 31, s 32, s 33, s 34, s 35, s 36, s 37, s 38, s 39, s 40, s 41, s 42, s 43, s 44], _⟩ _
          simp only [f0, f1, f2, f3, f4, f5, f6, f40, f41, f42, f43, f44, f15, f16, f17, f18, f19, f20, f21, f22, f23]
          clear hold hnew
          generalize s 7 = u7
          generalize s 8 = u8
          generalize s 9 = u9
          generalize s 10 = u10
          generalize s 11 = u11
          generalize s 12 = u12
          generalize s 13 = u13
          generalize s 14 = u14
          generalize s 24 = u24
          generalize s 25 = u25
          generalize s 26 = u26
          generalize s 27 = u27
          generalize s 28 = u28
          generalize s 29 = u29
          generalize s 30 = u30
          generalize s 31 = u31
          generalize s 32 = u32
          generalize s 33 = u33
          generalize s 34 = u34
          generalize s 35 = u35
          generalize s 36 = u36
          generalize s 37 = u37
          generalize s 38 = u38
          generalize s 39 = u39
          go_wp2_with fail
          replace c0 := (hEr.cell (p := ⟨b1, off1, none⟩) hb1).trans c0
          replace c1_ := (hEr.cell (p := ⟨b1, off1 + 1, none⟩) hb1).trans c1_
          replace d0 := (hEr.cell (p := ⟨b2, off2, none⟩) hb2).trans d0
          replace d1 := (hEr.cell (p := ⟨b2, off2 + 1, none⟩) hb2).trans d1
          have HRZ_z1 := Lib.hid (HV1.out.ev hEr)
          have HRZ_z2 := Lib.hid (HV2.out.ev hEr)
          replace HNB_z1 := Lib.hid (HNB_z1.out w4 hEr)
          replace HNB_z2 := Lib.hid (HNB_z2.out w4 hEr)
          clear c0r d0r
          have HM4 := HM.out.ev hEr
          have hZk := HM4.own
          have HKS : Hid (∀ k ∈ foot vk, k < w4.heap.size) := Lib.hid (HM.out.foot_lt hEr.size)
          replace hb1 : b1 < w4.heap.size := Nat.lt_of_lt_of_le hb1 hEr.size
          replace hb2 : b2 < w4.heap.size := Nat.lt_of_lt_of_le hb2 hEr.size
          refine wp_region_slotsB hmix (foot vk) 5 [fun v _ => v = vk, fun v _ => v = .slice (some ⟨b1, off1, none⟩) n1 c1, fun v _ => v = .pointer (some ⟨b1, off1, none⟩), fun v _ => v = jv z1, OneItem w4.heap.size z1, Grown2 w4 vk (M ++ P ++ [z1]), fun v _ => v = .slice (some ⟨b1, off1, none⟩) n1 c1, fun v _ => v = .slice (fromS 2 (some ⟨b1, off1, none⟩) c1 1) (n1 - 1) (c1 - 1), Grown2 w4 vk (M ++ P ++ [z1]), fun v _ => v = .slice (fromS 2 (some ⟨b1, off1, none⟩) c1 1) (n1 - 1) (c1 - 1)]
            45 rfl (by kernel_rfl) ⟨mono_eq _, mono_eq _, mono_eq _, mono_eq _, OneItem.mono, Grown2.mono, mono_eq _, mono_eq _, Grown2.mono, mono_eq _, trivial⟩ ⟨.inr (.inr (monoB_eq _ _)), .inr (.inr (monoB_eq _ _)), .inr (.inr (monoB_eq _ _)), .inr (.inr (monoB_eq _ _)), .inr (.inr (OneItem.monoB (fun k hk => HKS.out k hk))), .inl rfl, .inr (.inr (monoB_eq _ _)), .inr (.inr (monoB_eq _ _)), .inr (.inl (by kernel_rfl)), .inr (.inr (monoB_eq _ _)), trivial⟩ ?_ ?_
          · refine ops_cons 0 ?_ (ops_cons 1 ?_ (ops_cons 2 ?_ (ops_cons 3 ?_ (ops_cons 4 ?_ (ops_cons 5 ?_ (ops_cons 6 ?_ (ops_cons 7 ?_ (ops_cons 8 ?_ (ops_cons 9 ?_ (ops_nil 10))))))))))
            · refine opb_value fun a w c => ⟨(wanted_plain rfl), _, run_move _ rfl w, (c.was 0 (by kernel_rfl) rfl)⟩
            · refine opb_value fun a w c => ⟨(wanted_plain rfl), _, run_move _ rfl w, (c.was 1 (by kernel_rfl) rfl)⟩
            · refine opb_value fun a w c => ⟨(wanted_plain rfl), .pointer (some ⟨b1, off1, none⟩), ?_, rfl⟩
              have e33 : a.eval (.tmp 33) = .slice (some ⟨b1, off1, none⟩) n1 c1 := (c.new 1 33 (by kernel_rfl) (by kernel_rfl))
              have kc0 : a.eval (.const (.int .i64 0)) = .int .i64 0 := rfl
              generalize a.eval = ρ at e33 kc0 ⊢
              simp [execOp, e33, kc0, go_sem, j1]
            · refine opb_value fun a w c => ⟨(wanted_plain rfl), _, run_load_item rfl ((c.new 2 34 (by kernel_rfl) (by kernel_rfl)) : a.eval (.tmp 34) = .pointer (some ⟨b1, off1, none⟩)) (by rw [World.cell?_of_block (w := w4) (c.but.block _ hb1 HNB.out.1)]; exact c0) (by rw [World.cell?_of_block (w := w4) (c.but.block _ hb1 HNB.out.1)]; exact c1_), rfl⟩
            · refine opb_makes fun a w c => ⟨(wanted_plain rfl), _, _, run_build_item rfl ((c.new 3 35 (by kernel_rfl) (by kernel_rfl)) : a.eval (.tmp 35) = jv z1) w, Turns.of_ev (Ev.alloc _ _), OneItem.new c.but.size⟩
            · refine opb_makes fun a w c => ?_
              have e_ : a.eval (.tmp 32) = vk := (c.new 0 32 (by kernel_rfl) (by kernel_rfl))
              have hO_ : OneItem w4.heap.size z1 (a.eval (.tmp 36)) w := (c.new 4 36 (by kernel_rfl) (by kernel_rfl))
              obtain ⟨v_, w_, hr_, hG_, hT_⟩ := hO_.append 23 23 Try.underlying23 Try.infoItem (c.evm rfl) hZk HRZ_z1.out HNB_z1.out HSZ.out
              refine ⟨(wanted_plain rfl), v_, w_, ?_, Turns.self hT_, hG_⟩
              unfold execOp
              simp only [resolve, invoke, builtin, Sem.run_bind, Sem.run_pure, Result.andThen_ok, List.map_toArray, List.map_cons, List.map_nil, e_, hr_]
            · refine opb_value fun a w c => ⟨(wanted_plain rfl), _, run_move _ rfl w, (c.was 1 (by kernel_rfl) rfl)⟩
            · refine opb_value fun a w c => ⟨(wanted_plain rfl), _, run_from_items 1 rfl ((c.new 6 38 (by kernel_rfl) (by kernel_rfl)) : a.eval (.tmp 38) = .slice (some ⟨b1, off1, none⟩) n1 c1) rfl (by omega) (by omega) w, rfl⟩
            · refine opb_value fun a w c => ⟨(wanted_plain rfl), _, run_assign _ rfl w, ((c.new 5 37 (by kernel_rfl) (by kernel_rfl)))⟩
            · refine opb_value fun a w c => ⟨(wanted_plain rfl), _, run_assign _ rfl w, (c.new 7 39 (by kernel_rfl) (by kernel_rfl))⟩
          intro s w5 hB hold hnew
          have f2 : s 2 = .slice (some ⟨b2, off2, none⟩) m1 c2 := hold 2 (by kernel_rfl)
          have f3 : s 3 = undef := hold 3 (by kernel_rfl)
          have f4 : s 4 = undef := hold 4 (by kernel_rfl)
          have f5 : s 5 = undef := hold 5 (by kernel_rfl)
          have f6 : s 6 = .slice none 0 0 := hold 6 (by kernel_rfl)
          have f40 : s 40 = undef := hold 40 (by kernel_rfl)
          have f41 : s 41 = undef := hold 41 (by kernel_rfl)
          have f42 : s 42 = undef := hold 42 (by kernel_rfl)
          have f43 : s 43 = undef := hold 43 (by kernel_rfl)
          have f44 : s 44 = undef := hold 44 (by kernel_rfl)
          have f1 : s 1 = .slice (fromS 2 (some ⟨b1, off1, none⟩) c1 1) (n1 - 1) (c1 - 1) := hnew 9 1 (by kernel_rfl)
          have f32 : s 32 = vk := hnew 0 32 (by kernel_rfl)
          have f33 : s 33 = .slice (some ⟨b1, off1, none⟩) n1 c1 := hnew 1 33 (by kernel_rfl)
          have f34 : s 34 = .pointer (some ⟨b1, off1, none⟩) := hnew 2 34 (by kernel_rfl)
          have f35 : s 35 = jv z1 := hnew 3 35 (by kernel_rfl)
          have f38 : s 38 = .slice (some ⟨b1, off1, none⟩) n1 c1 := hnew 6 38 (by kernel_rfl)
          have f39 : s 39 = .slice (fromS 2 (some ⟨b1, off1, none⟩) c1 1) (n1 - 1) (c1 - 1) := hnew 7 39 (by kernel_rfl)
          have hG : Grown2 w4 vk (M ++ P ++ [z1]) (s 0) w5 := hnew 8 0 (by kernel_rfl)
          change Exit.inBlock _ _ .normal ⟨#[s 0, s 1, s 2, s 3, s 4, s 5, s 6, s 7, s 8, s 9, s 10, s 11, s 12, s 13, s 14, s 15, s 16, s 17, s 18, s 19, s 20, s 21, s 22, s 23, s 24, s 25, s 26, s 27, s 28, s 29, s 30, s 31, s 32, s 33, s 34, s 35, s 36, s 37, s 38, s 39, s 40, s 41, s 42, s 43, s 44], _⟩ _
          simp only [f2, f3, f4, f5, f6, f40, f41, f42, f43, f44, f1, f32, f33, f34, f35, f38, f39]
          clear hold hnew
          generalize s 7 = u7
          generalize s 8 = u8
          generalize s 9 = u9
          generalize s 10 = u10
          generalize s 11 = u11
          generalize s 12 = u12
          generalize s 13 = u13
          generalize s 14 = u14
          generalize s 15 = u15
          generalize s 16 = u16
          generalize s 17 = u17
          generalize s 18 = u18
          generalize s 19 = u19
          generalize s 20 = u20
          generalize s 21 = u21
          generalize s 22 = u22
          generalize s 23 = u23
          generalize s 24 = u24
          generalize s 25 = u25
          generalize s 26 = u26
          generalize s 27 = u27
          generalize s 28 = u28
          generalize s 29 = u29
          generalize s 30 = u30
          generalize s 31 = u31
          generalize s 0 = vn at *
          generalize s 36 = u36_
          generalize s 37 = u37_
          go_wp2_with fail
          go_roundw
          case rel => exact ⟨P ++ [z1], _, _, _, _, _, _, _, _, rfl, rfl, Lib.hid (HM4.next hB (by rw [← List.append_assoc]; exact hG) (HM4.a.from_ (k := 1) (by omega)) HM4.b (by rw [HM4.eq, mergeF_nless HX1.out HX2.out HLS.out, List.append_assoc]; rfl) (by simp; omega))⟩
          case measure => simp [slen]; omega
        · go_wp2_with fail
          refine wp_region_slots hmix [fun v _ => v = .slice (some ⟨b2, off2, none⟩) m1 c2, fun v _ => v = .pointer (some ⟨b2, off2, none⟩), fun v _ => v = .pointer (some ⟨b2, off2, none⟩), fun v _ => v = .slice z2.1.1 z2.1.2.1 z2.1.2.2, fun v _ => v = .slice (some ⟨b1, off1, none⟩) n1 c1, fun v _ => v = .pointer (some ⟨b1, off1, none⟩), fun v _ => v = .pointer (some ⟨b1, off1, none⟩), fun v _ => v = .slice z1.1.1 z1.1.2.1 z1.1.2.2, fun v _ => v = .bool true]
            45 rfl (by kernel_rfl) ⟨mono_eq _, mono_eq _, mono_eq _, mono_eq _, mono_eq _, mono_eq _, mono_eq _, mono_eq _, mono_eq _, trivial⟩ ?_ ?_
          · refine ops_cons 0 ?_ (ops_cons 1 ?_ (ops_cons 2 ?_ (ops_cons 3 ?_ (ops_cons 4 ?_ (ops_cons 5 ?_ (ops_cons 6 ?_ (ops_cons 7 ?_ (ops_cons 8 ?_ (ops_nil 9)))))))))
            · refine op_value fun a w c => ⟨(wanted_plain rfl), _, run_move _ rfl w, (c.was 2 (by kernel_rfl) rfl)⟩
            · refine op_value fun a w c => ⟨(wanted_plain rfl), .pointer (some ⟨b2, off2, none⟩), ?_, rfl⟩
              have e15 : a.eval (.tmp 15) = .slice (some ⟨b2, off2, none⟩) m1 c2 := (c.new 0 15 (by kernel_rfl) (by kernel_rfl))
              have kc0 : a.eval (.const (.int .i64 0)) = .int .i64 0 := rfl
              generalize a.eval = ρ at e15 kc0 ⊢
              simp [execOp, e15, kc0, go_sem, j2]
            · refine op_value fun a w c => ⟨(wanted_plain rfl), .pointer (some ⟨b2, off2, none⟩), ?_, rfl⟩
              have e16 : a.eval (.tmp 16) = .pointer (some ⟨b2, off2, none⟩) := (c.new 1 16 (by kernel_rfl) (by kernel_rfl))
              generalize a.eval = ρ at e16 ⊢
              simp [execOp, e16, go_sem]
            · refine op_value fun a w c => ⟨(wanted_plain rfl), .slice z2.1.1 z2.1.2.1 z2.1.2.2, ?_, rfl⟩
              have e17 : a.eval (.tmp 17) = .pointer (some ⟨b2, off2, none⟩) := (c.new 2 17 (by kernel_rfl) (by kernel_rfl))
              have hc := (c.ev.cell (p := ⟨b2, off2, none⟩) hb2).trans d0r
              generalize a.eval = ρ at e17 ⊢
              simp [execOp, e17, hc, go_sem]
            · refine op_value fun a w c => ⟨(wanted_plain rfl), _, run_move _ rfl w, (c.was 1 (by kernel_rfl) rfl)⟩
            · refine op_value fun a w c => ⟨(wanted_plain rfl), .pointer (some ⟨b1, off1, none⟩), ?_, rfl⟩
              have e19 : a.eval (.tmp 19) = .slice (some ⟨b1, off1, none⟩) n1 c1 := (c.new 4 19 (by kernel_rfl) (by kernel_rfl))
              have kc0 : a.eval (.const (.int .i64 0)) = .int .i64 0 := rfl
              generalize a.eval = ρ at e19 kc0 ⊢
              simp [execOp, e19, kc0, go_sem, j1]
            · refine op_value fun a w c => ⟨(wanted_plain rfl), .pointer (some ⟨b1, off1, none⟩), ?_, rfl⟩
              have e20 : a.eval (.tmp 20) = .pointer (some ⟨b1, off1, none⟩) := (c.new 5 20 (by kernel_rfl) (by kernel_rfl))
              generalize a.eval = ρ at e20 ⊢
              simp [execOp, e20, go_sem]
            · refine op_value fun a w c => ⟨(wanted_plain rfl), .slice z1.1.1 z1.1.2.1 z1.1.2.2, ?_, rfl⟩
              have e21 : a.eval (.tmp 21) = .pointer (some ⟨b1, off1, none⟩) := (c.new 6 21 (by kernel_rfl) (by kernel_rfl))
              have hc := (c.ev.cell (p := ⟨b1, off1, none⟩) hb1).trans c0r
              generalize a.eval = ρ at e21 ⊢
              simp [execOp, e21, hc, go_sem]
            · refine op_call fun a w c => ⟨(wanted_plain rfl), 28, #[.slice z2.1.1 z2.1.2.1 z2.1.2.2, .slice z1.1.1 z1.1.2.1 z1.1.2.2], ?_, ?_⟩
              · rw [run_call 28 _ _ rfl (by kernel_rfl)]
                have e18 : a.eval (.tmp 18) = .slice z2.1.1 z2.1.2.1 z2.1.2.2 := (c.new 3 18 (by kernel_rfl) (by kernel_rfl))
                have e22 : a.eval (.tmp 22) = .slice z1.1.1 z1.1.2.1 z1.1.2.2 := (c.new 7 22 (by kernel_rfl) (by kernel_rfl))
                simp [e18, e22]
              · refine (HL.out w c.ev).mono ?_
                rintro e w2 ⟨rfl, hE⟩
                exact ⟨_, rfl, hE, rfl⟩
          intro s w4 hEr hold hnew
          have f0 : s 0 = vk := hold 0 (by kernel_rfl)
          have f1 : s 1 = .slice (some ⟨b1, off1, none⟩) n1 c1 := hold 1 (by kernel_rfl)
          have f2 : s 2 = .slice (some ⟨b2, off2, none⟩) m1 c2 := hold 2 (by kernel_rfl)
          have f3 : s 3 = undef := hold 3 (by kernel_rfl)
          have f4 : s 4 = undef := hold 4 (by kernel_rfl)
          have f5 : s 5 = undef := hold 5 (by kernel_rfl)
          have f6 : s 6 = .slice none 0 0 := hold 6 (by kernel_rfl)
          have f40 : s 40 = undef := hold 40 (by kernel_rfl)
          have f41 : s 41 = undef := hold 41 (by kernel_rfl)
          have f42 : s 42 = undef := hold 42 (by kernel_rfl)
          have f43 : s 43 = undef := hold 43 (by kernel_rfl)
          have f44 : s 44 = undef := hold 44 (by kernel_rfl)
          have f15 : s 15 = .slice (some ⟨b2, off2, none⟩) m1 c2 := hnew 0 15 (by kernel_rfl)
          have f16 : s 16 = .pointer (some ⟨b2, off2, none⟩) := hnew 1 16 (by kernel_rfl)
          have f17 : s 17 = .pointer (some ⟨b2, off2, none⟩) := hnew 2 17 (by kernel_rfl)
          have f18 : s 18 = .slice z2.1.1 z2.1.2.1 z2.1.2.2 := hnew 3 18 (by kernel_rfl)
          have f19 : s 19 = .slice (some ⟨b1, off1, none⟩) n1 c1 := hnew 4 19 (by kernel_rfl)
          have f20 : s 20 = .pointer (some ⟨b1, off1, none⟩) := hnew 5 20 (by kernel_rfl)
          have f21 : s 21 = .pointer (some ⟨b1, off1, none⟩) := hnew 6 21 (by kernel_rfl)
          have f22 : s 22 = .slice z1.1.1 z1.1.2.1 z1.1.2.2 := hnew 7 22 (by kernel_rfl)
          have f23 : s 23 = .bool true := hnew 8 23 (by kernel_rfl)
          change Exit.then _ _ .normal ⟨#[s 0, s 1, s 2, s 3, s 4, s 5, s 6, s 7, s 8, s 9, s 10, s 11, s 12, s 13, s 14, s 15, s 16, s 17, s 18, s 19, s 20, s 21, s 22, s 23, s 24, s 25, s 26, s 27, s 28, s 29, s 30, s 31, s 32, s 33, s 34, s 35, s 36, s 37, s 38, s 39, s 40, s 41, s 42, s 43, s 44], _⟩ _
          simp only [f0, f1, f2, f3, f4, f5, f6, f40, f41, f42, f43, f44, f15, f16, f17, f18, f19, f20, f21, f22, f23]
          clear hold hnew
          generalize s 7 = u7
          generalize s 8 = u8
          generalize s 9 = u9
          generalize s 10 = u10
          generalize s 11 = u11
          generalize s 12 = u12
          generalize s 13 = u13
          generalize s 14 = u14
          generalize s 24 = u24
          generalize s 25 = u25
          generalize s 26 = u26
          generalize s 27 = u27
          generalize s 28 = u28
          generalize s 29 = u29
          generalize s 30 = u30
          generalize s 31 = u31
          generalize s 32 = u32
          generalize s 33 = u33
          generalize s 34 = u34
          generalize s 35 = u35
          generalize s 36 = u36
          generalize s 37 = u37
          generalize s 38 = u38
          generalize s 39 = u39
          go_wp2_with fail
          replace c0 := (hEr.cell (p := ⟨b1, off1, none⟩) hb1).trans c0
          replace c1_ := (hEr.cell (p := ⟨b1, off1 + 1, none⟩) hb1).trans c1_
          replace d0 := (hEr.cell (p := ⟨b2, off2, none⟩) hb2).trans d0
          replace d1 := (hEr.cell (p := ⟨b2, off2 + 1, none⟩) hb2).trans d1
          have HRZ_z1 := Lib.hid (HV1.out.ev hEr)
          have HRZ_z2 := Lib.hid (HV2.out.ev hEr)
          replace HNB_z1 := Lib.hid (HNB_z1.out w4 hEr)
          replace HNB_z2 := Lib.hid (HNB_z2.out w4 hEr)
          clear c0r d0r
          have HM4 := HM.out.ev hEr
          have hZk := HM4.own
          have HKS : Hid (∀ k ∈ foot vk, k < w4.heap.size) := Lib.hid (HM.out.foot_lt hEr.size)
          replace hb1 : b1 < w4.heap.size := Nat.lt_of_lt_of_le hb1 hEr.size
          replace hb2 : b2 < w4.heap.size := Nat.lt_of_lt_of_le hb2 hEr.size
          refine wp_region_slotsB hmix (foot vk) 5 [fun v _ => v = vk, fun v _ => v = .slice (some ⟨b2, off2, none⟩) m1 c2, fun v _ => v = .pointer (some ⟨b2, off2, none⟩), fun v _ => v = jv z2, OneItem w4.heap.size z2, Grown2 w4 vk (M ++ P ++ [z2]), fun v _ => v = .slice (some ⟨b2, off2, none⟩) m1 c2, fun v _ => v = .slice (fromS 2 (some ⟨b2, off2, none⟩) c2 1) (m1 - 1) (c2 - 1), Grown2 w4 vk (M ++ P ++ [z2]), fun v _ => v = .slice (fromS 2 (some ⟨b2, off2, none⟩) c2 1) (m1 - 1) (c2 - 1)]
            45 rfl (by kernel_rfl) ⟨mono_eq _, mono_eq _, mono_eq _, mono_eq _, OneItem.mono, Grown2.mono, mono_eq _, mono_eq _, Grown2.mono, mono_eq _, trivial⟩ ⟨.inr (.inr (monoB_eq _ _)), .inr (.inr (monoB_eq _ _)), .inr (.inr (monoB_eq _ _)), .inr (.inr (monoB_eq _ _)), .inr (.inr (OneItem.monoB (fun k hk => HKS.out k hk))), .inl rfl, .inr (.inr (monoB_eq _ _)), .inr (.inr (monoB_eq _ _)), .inr (.inl (by kernel_rfl)), .inr (.inr (monoB_eq _ _)), trivial⟩ ?_ ?_
          · refine ops_cons 0 ?_ (ops_cons 1 ?_ (ops_cons 2 ?_ (ops_cons 3 ?_ (ops_cons 4 ?_ (ops_cons 5 ?_ (ops_cons 6 ?_ (ops_cons 7 ?_ (ops_cons 8 ?_ (ops_cons 9 ?_ (ops_nil 10))))))))))
            · refine opb_value fun a w c => ⟨(wanted_plain rfl), _, run_move _ rfl w, (c.was 0 (by kernel_rfl) rfl)⟩
            · refine opb_value fun a w c => ⟨(wanted_plain rfl), _, run_move _ rfl w, (c.was 2 (by kernel_rfl) rfl)⟩
            · refine opb_value fun a w c => ⟨(wanted_plain rfl), .pointer (some ⟨b2, off2, none⟩), ?_, rfl⟩
              have e25 : a.eval (.tmp 25) = .slice (some ⟨b2, off2, none⟩) m1 c2 := (c.new 1 25 (by kernel_rfl) (by kernel_rfl))
              have kc0 : a.eval (.const (.int .i64 0)) = .int .i64 0 := rfl
              generalize a.eval = ρ at e25 kc0 ⊢
              simp [execOp, e25, kc0, go_sem, j2]
            · refine opb_value fun a w c => ⟨(wanted_plain rfl), _, run_load_item rfl ((c.new 2 26 (by kernel_rfl) (by kernel_rfl)) : a.eval (.tmp 26) = .pointer (some ⟨b2, off2, none⟩)) (by rw [World.cell?_of_block (w := w4) (c.but.block _ hb2 HNB.out.2)]; exact d0) (by rw [World.cell?_of_block (w := w4) (c.but.block _ hb2 HNB.out.2)]; exact d1), rfl⟩
            · refine opb_makes fun a w c => ⟨(wanted_plain rfl), _, _, run_build_item rfl ((c.new 3 27 (by kernel_rfl) (by kernel_rfl)) : a.eval (.tmp 27) = jv z2) w, Turns.of_ev (Ev.alloc _ _), OneItem.new c.but.size⟩
            · refine opb_makes fun a w c => ?_
              have e_ : a.eval (.tmp 24) = vk := (c.new 0 24 (by kernel_rfl) (by kernel_rfl))
              have hO_ : OneItem w4.heap.size z2 (a.eval (.tmp 28)) w := (c.new 4 28 (by kernel_rfl) (by kernel_rfl))
              obtain ⟨v_, w_, hr_, hG_, hT_⟩ := hO_.append 23 23 Try.underlying23 Try.infoItem (c.evm rfl) hZk HRZ_z2.out HNB_z2.out HSZ.out
              refine ⟨(wanted_plain rfl), v_, w_, ?_, Turns.self hT_, hG_⟩
              unfold execOp
              simp only [resolve, invoke, builtin, Sem.run_bind, Sem.run_pure, Result.andThen_ok, List.map_toArray, List.map_cons, List.map_nil, e_, hr_]
            · refine opb_value fun a w c => ⟨(wanted_plain rfl), _, run_move _ rfl w, (c.was 2 (by kernel_rfl) rfl)⟩
            · refine opb_value fun a w c => ⟨(wanted_plain rfl), _, run_from_items 1 rfl ((c.new 6 30 (by kernel_rfl) (by kernel_rfl)) : a.eval (.tmp 30) = .slice (some ⟨b2, off2, none⟩) m1 c2) rfl (by omega) (by omega) w, rfl⟩
            · refine opb_value fun a w c => ⟨(wanted_plain rfl), _, run_assign _ rfl w, ((c.new 5 29 (by kernel_rfl) (by kernel_rfl)))⟩
            · refine opb_value fun a w c => ⟨(wanted_plain rfl), _, run_assign _ rfl w, (c.new 7 31 (by kernel_rfl) (by kernel_rfl))⟩
          intro s w5 hB hold hnew
          have f1 : s 1 = .slice (some ⟨b1, off1, none⟩) n1 c1 := hold 1 (by kernel_rfl)
          have f3 : s 3 = undef := hold 3 (by kernel_rfl)
          have f4 : s 4 = undef := hold 4 (by kernel_rfl)
          have f5 : s 5 = undef := hold 5 (by kernel_rfl)
          have f6 : s 6 = .slice none 0 0 := hold 6 (by kernel_rfl)
          have f40 : s 40 = undef := hold 40 (by kernel_rfl)
          have f41 : s 41 = undef := hold 41 (by kernel_rfl)
          have f42 : s 42 = undef := hold 42 (by kernel_rfl)
          have f43 : s 43 = undef := hold 43 (by kernel_rfl)
          have f44 : s 44 = undef := hold 44 (by kernel_rfl)
          have f2 : s 2 = .slice (fromS 2 (some ⟨b2, off2, none⟩) c2 1) (m1 - 1) (c2 - 1) := hnew 9 2 (by kernel_rfl)
          have f24 : s 24 = vk := hnew 0 24 (by kernel_rfl)
          have f25 : s 25 = .slice (some ⟨b2, off2, none⟩) m1 c2 := hnew 1 25 (by kernel_rfl)
          have f26 : s 26 = .pointer (some ⟨b2, off2, none⟩) := hnew 2 26 (by kernel_rfl)
          have f27 : s 27 = jv z2 := hnew 3 27 (by kernel_rfl)
          have f30 : s 30 = .slice (some ⟨b2, off2, none⟩) m1 c2 := hnew 6 30 (by kernel_rfl)
          have f31 : s 31 = .slice (fromS 2 (some ⟨b2, off2, none⟩) c2 1) (m1 - 1) (c2 - 1) := hnew 7 31 (by kernel_rfl)
          have hG : Grown2 w4 vk (M ++ P ++ [z2]) (s 0) w5 := hnew 8 0 (by kernel_rfl)
          change Exit.inBlock _ _ .normal ⟨#[s 0, s 1, s 2, s 3, s 4, s 5, s 6, s 7, s 8, s 9, s 10, s 11, s 12, s 13, s 14, s 15, s 16, s 17, s 18, s 19, s 20, s 21, s 22, s 23, s 24, s 25, s 26, s 27, s 28, s 29, s 30, s 31, s 32, s 33, s 34, s 35, s 36, s 37, s 38, s 39, s 40, s 41, s 42, s 43, s 44], _⟩ _
          simp only [f1, f3, f4, f5, f6, f40, f41, f42, f43, f44, f2, f24, f25, f26, f27, f30, f31]
          clear hold hnew
          generalize s 7 = u7
          generalize s 8 = u8
          generalize s 9 = u9
          generalize s 10 = u10
          generalize s 11 = u11
          generalize s 12 = u12
          generalize s 13 = u13
          generalize s 14 = u14
          generalize s 15 = u15
          generalize s 16 = u16
          generalize s 17 = u17
          generalize s 18 = u18
          generalize s 19 = u19
          generalize s 20 = u20
          generalize s 21 = u21
          generalize s 22 = u22
          generalize s 23 = u23
          generalize s 32 = u32
          generalize s 33 = u33
          generalize s 34 = u34
          generalize s 35 = u35
          generalize s 36 = u36
          generalize s 37 = u37
          generalize s 38 = u38
          generalize s 39 = u39
          generalize s 0 = vn at *
          generalize s 28 = u28_
          generalize s 29 = u29_
          go_wp2_with fail
          go_roundw
          case rel => exact ⟨P ++ [z2], _, _, _, _, _, _, _, _, rfl, rfl, Lib.hid (HM4.next hB (by rw [← List.append_assoc]; exact hG) HM4.a (HM4.b.from_ (k := 1) (by omega)) (by rw [HM4.eq, mergeF_less HX1.out HX2.out HLS.out, List.append_assoc]; rfl) (by simp; omega))⟩
          case measure => simp [slen]; omega
      · have i2 : ¬ (0 : Int) < (m1 : Int) := by omega
        have HXY : Hid (mergeF keyJ X1 Y1 = X1 ++ Y1) := Lib.hid (by
          rw [List.eq_nil_of_length_eq_zero (by rw [HM.out.b.len]; omega : Y1.length = 0), mergeF_nil', List.append_nil])
        have hJa := HM.out.a.js
        have hRa := HM.out.rowsA
        have hZ0 := HM.out.own
        have HB1 : Hid (((M ++ P).length + X1.length) * 40 ≤ 140737488355328) := Lib.hid (by rw [List.length_append, HM.out.a.len]; omega)
        have HB2 : Hid (((M ++ (P ++ X1)).length + Y1.length) * 40 ≤ 140737488355328) := Lib.hid (by rw [List.length_append, List.length_append, HM.out.a.len, HM.out.b.len]; omega)
        go_wp2_with (first | (at_builtin; refine wpList_append_items rfl 23 (.tmp 40) (.tmp 41) rfl Try.underlying23 Try.infoItem vk (M ++ P) rfl hZ0 A1 n1 c1 X1 rfl hJa hRa HB1.out ?_; intro v1 w1 hz1 hb1 hs1; have HM1 := HM.out.putA HXY.out ⟨(by rw [← List.append_assoc]; exact hz1), hs1⟩ hb1) | (at_builtin; refine wpList_append_items rfl 23 (.tmp 42) (.tmp 43) rfl Try.underlying23 Try.infoItem v1 (M ++ (P ++ X1)) rfl HM1.own A2 m1 c2 Y1 rfl HM1.b.js HM1.rowsB HB2.out ?_; intro v2 w2 hz2 hb2 hs2; have HM2 := HM1.putB ⟨(by rw [← List.append_assoc]; exact hz2), hs2⟩ hb2))
        go_ret
        have he := HM2.eq
        rw [mergeF_nil, List.append_nil] at he
        exact ⟨v2, rfl, by rw [he]; exact HM2.own, HM2.high, HM2.but, HM2.spr⟩
    · have i1 : ¬ (0 : Int) < (n1 : Int) := by omega
      have HXY : Hid (mergeF keyJ X1 Y1 = X1 ++ Y1) := Lib.hid (by
        rw [List.eq_nil_of_length_eq_zero (by rw [HM.out.a.len]; omega : X1.length = 0), mergeF_nil, List.nil_append])
      have hJa := HM.out.a.js
      have hRa := HM.out.rowsA
      have hZ0 := HM.out.own
      have HB1 : Hid (((M ++ P).length + X1.length) * 40 ≤ 140737488355328) := Lib.hid (by rw [List.length_append, HM.out.a.len]; omega)
      have HB2 : Hid (((M ++ (P ++ X1)).length + Y1.length) * 40 ≤ 140737488355328) := Lib.hid (by rw [List.length_append, List.length_append, HM.out.a.len, HM.out.b.len]; omega)
      go_wp2_with (first | (at_builtin; refine wpList_append_items rfl 23 (.tmp 40) (.tmp 41) rfl Try.underlying23 Try.infoItem vk (M ++ P) rfl hZ0 A1 n1 c1 X1 rfl hJa hRa HB1.out ?_; intro v1 w1 hz1 hb1 hs1; have HM1 := HM.out.putA HXY.out ⟨(by rw [← List.append_assoc]; exact hz1), hs1⟩ hb1) | (at_builtin; refine wpList_append_items rfl 23 (.tmp 42) (.tmp 43) rfl Try.underlying23 Try.infoItem v1 (M ++ (P ++ X1)) rfl HM1.own A2 m1 c2 Y1 rfl HM1.b.js HM1.rowsB HB2.out ?_; intro v2 w2 hz2 hb2 hs2; have HM2 := HM1.putB ⟨(by rw [← List.append_assoc]; exact hz2), hs2⟩ hb2))
      go_ret
      have he := HM2.eq
      rw [mergeF_nil, List.append_nil] at he
      exact ⟨v2, rfl, by rw [he]; exact HM2.own, HM2.high, HM2.but, HM2.spr⟩
end Go.Proofs.Ytcenjjoadhfhaaa
