/-
  Texts that belong together: Chapter 8's runs ('known'); Eval and Type of an expression that is known. Package expr: all parts of a tree; what is told of a tree that stands for no expression. The law's own function out: a tree of the document as the program's. Package expr: Read. Regions that load a struct out of its box, ask for the columns of t and call with both: the facts that they want.
-/
import Derived.Test.YtgiofdmedhhobaaZ21N
import Derived.Test.YtgiofdmedhhobaaZ16N
import Derived.Test.YtgiofdmedhhobaaZ8N
import Derived.Test.YtgiofdmedhhobaaZ5N
import Derived.Test.YtgiofdmedhhobaaZ0N
import Derived.Test.YtgiofdmedhhobaaZ20N
import Derived.Test.YtgiofdmedhhobaaZ15N
import Derived.Deep.DeepCutAuto
import Derived.Test.YtgiofdmedhhobaaZ13N
namespace Go.Proofs.Ytgiofdmedhhobaa
open Go.RowKit
set_option linter.unusedVariables false

theorem of_at (s : ByteArray) (t : T) (ht : xOf s.data.toList = t) (hk : (rfRead s.data.toList).1.every fairB = true ∧ (rfRead s.data.toList).1.size ≤ 100000) (hs : s.size ≤ 100000) (w : World) :
    Calls Try.prog 16 #[.string s] w (OfOut t w) := by
  rw [← ht]
  exact law8_of s w hs hk.1 hk.2
theorem eval_at (t : T) (cols : List C) (r : List V) (k n : Int) (s : ByteArray) (y : Int) (hR : xValue cols r t = ((k, n, s), y)) (hz : t.size ≤ 16000) (hft : t.every fairB = true) (hfr : ∀ x ∈ r, fairV x) (m : M) (b0 : Nat) (w : World) (A : Option Addr) (n1 cap : Nat) (B : Option Addr) (n2 cap2 : Nat) (hm : m.t = t) (hL : Lx b0 [] w m) (hC : Cs w A n1 cap cols) (hV : Vs w B n2 cap2 r) :
    Calls Try.prog 14 #[ev_ m, .slice A n1 cap, .slice B n2 cap2] w fun e w' => e = .returned (.tuple #[vv k n s, .int .i64 y]) ∧ Ev w w' := by
  subst hm
  have := ex_eval m b0 w A n1 cap cols B n2 cap2 r hL hC hV hz hfr hft
  rw [hR] at this
  exact this
theorem type_at (t : T) (cols : List C) (R1 R2 : Int) (hR : xType cols t = (R1, R2)) (hz : t.size ≤ 16000) (hft : t.every fairB = true) (m : M) (b0 : Nat) (w : World) (A : Option Addr) (n cap : Nat) (hm : m.t = t) (hL : Lx b0 [] w m) (hC : Cs w A n cap cols) :
    Calls Try.prog 12 #[ev_ m, .slice A n cap] w fun e w' => e = .returned (.tuple #[.int .i64 R1, .int .i64 R2]) ∧ Ev w w' := by
  subst hm
  have := ex_type m b0 w A n cap cols hL hC hz (fair_short hft)
  rw [hR] at this
  exact this
theorem fair_num {a : Int} (h : i64R a) : fairV (numV a) := ⟨h, (show (0 : Nat) ≤ 100000 by omega)⟩
theorem fair_nums {l : List Int} (h : ∀ a ∈ l, i64R a) : ∀ x ∈ l.map numV, fairV x := fun x hx => by
  obtain ⟨a, ha, rfl⟩ := List.mem_map.1 hx
  exact fair_num (h a ha)
theorem value_known : xValue ucols ([-5, 1].map numV) (.mk 4 bIf 0 [.mk 4 bLt 0 [.mk 1 [97] 0 [] 0, .mk 2 [] 0 [] 0] 0, .mk 4 bNeg 0 [.mk 1 [97] 0 [] 0] 0, .mk 1 [97] 0 [] 0] 0) = ((1, 5, ⟨#[]⟩), 0) := by kernel_rfl
theorem type_known : xType ucols (.mk 4 bAdd 0 [.mk 1 [97] 0 [] 0, .mk 3 [120] 0 [] 0] 0) = (0, 22) := by kernel_rfl

set_option maxRecDepth 100000 in
set_option maxHeartbeats 4000000 in
theorem known8_any (w : World) :
    Calls Try.prog 20 #[] w fun e w' => e = .returned (.bool true) ∧ Ev w w' := by
  have hmix : Try.prog.follows .mixedOrders = true := by kernel_rfl
  have HO1 := Lib.hid (of_at ⟨#[40, 105, 102, 32, 40, 108, 116, 32, 97, 32, 48, 41, 32, 40, 110, 101, 103, 32, 97, 41, 32, 97, 41]⟩ _ xOf_if xOk_if (by decide))
  have HO2 := Lib.hid (of_at ⟨#[40, 97, 100, 100, 32, 97, 32, 34, 120, 34, 41]⟩ _ xOf_addx xOk_addx (by decide))
  have HU := Lib.hid keep_u
  have HN : Hid (∀ w, Calls Try.prog 17 #[.slice (some ⟨w.heap.size, 0, none⟩) 2 2] (w.alloc (.cells #[.int .i64 (-5), .int .i64 1] 2)) fun e w' => ∃ A m cap, e = .returned (.slice A m cap) ∧ Vs w' A m cap ([-5, 1].map numV) ∧ Ev w w') := Lib.hid fun w1 => nums_lit [-5, 1] 2 rfl (by decide) w1 _ rfl
  have HE := Lib.hid (eval_at _ _ _ _ _ _ _ value_known (by decide +kernel) (by decide +kernel) (fair_nums (by decide)))
  have HT := Lib.hid (type_at _ _ _ _ type_known (by decide +kernel) (by decide +kernel))
  have HK := Lib.hid fun w1 => keep_num 5 w1
  go_enter Try.func20, Try.ntmps20
  go_wp2_with (first
    | ((with_reducible refine (HO2.out _).mono ?_); rintro e w5 ⟨y, rfl, hyt, hyl, hE5⟩)
    | ((with_reducible refine (HO1.out w).mono ?_); rintro e w1 ⟨x, rfl, hxt, hxl, hE1⟩)
    | (have hh := hE5; (with_reducible refine (HU.out _).mono ?_); rintro e w6 ⟨rfl, hC6, hE6⟩)
    | ((with_reducible refine (HU.out _).mono ?_); rintro e w2 ⟨rfl, hC2, hE2⟩)
    | ((with_reducible refine (HN.out w2).mono ?_); rintro e w3 ⟨A3, n3, cap3, rfl, hV3, hE3⟩)
    | ((with_reducible refine (HE.out x _ _ _ _ _ _ _ _ hxt (hxl.ev (hE2.trans hE3)) (hC2.ev hE3) hV3).mono ?_); rintro e w4 ⟨rfl, hE4⟩; have hB4 := Boxed.new 1 5 ⟨#[]⟩ w4)
    | ((with_reducible refine (HT.out y _ _ _ _ _ hyt (hyl.ev hE6) hC6).mono ?_); rintro e w7 ⟨rfl, hE7⟩; have HB := hB4.ev ((hE5.trans hE6).trans hE7); have E7 := ((((((hE1.trans hE2).trans hE3).trans hE4).trans (Ev.alloc w4 (.cells #[.int .i64 1, .int .i64 5, .string ⟨#[]⟩] 25))).trans hE5).trans hE6).trans hE7))
  generalize w4.heap.size = pv at *
  refine wp_region_slots hmix [fun v _ => v = vv 1 5 ⟨#[]⟩, fun v _ => v = vv 1 5 ⟨#[]⟩, fun v _ => v = .bool true, fun v _ => v = .bool true, fun v _ => v = .int .i64 0, fun v _ => v = .bool true, fun v _ => v = .bool true, fun v _ => v = .bool true, fun v _ => v = .int .i64 22, fun v _ => v = .bool true, fun v _ => v = .bool true, fun v _ => v = .bool true]
    30 rfl (by kernel_rfl) ⟨mono_eq _, mono_eq _, mono_eq _, mono_eq _, mono_eq _, mono_eq _, mono_eq _, mono_eq _, mono_eq _, mono_eq _, mono_eq _, mono_eq _, trivial⟩ ?_ ?_
  · refine ops_cons 0 ?_ (ops_cons 1 ?_ (ops_cons 2 ?_ (ops_cons 3 ?_ (ops_cons 4 ?_ (ops_cons 5 ?_ (ops_cons 6 ?_ (ops_cons 7 ?_ (ops_cons 8 ?_ (ops_cons 9 ?_ (ops_cons 10 ?_ (ops_cons 11 ?_ (ops_nil 12))))))))))))
    · refine op_value fun a w c => ⟨(wanted_plain rfl), _, run_load_val rfl ((c.was 1 (by kernel_rfl) rfl) : a.eval (.tmp 1) = .pointer (some ⟨pv, 0, none⟩)) (HB.ev c.ev), rfl⟩
    · refine op_call fun a w c => ⟨(wanted_plain rfl), 5, #[.int .i64 5], ?_, ?_⟩
      · rw [run_call 5 _ _ rfl (by kernel_rfl)]
        simp [evc]
      · refine (HK.out w).mono ?_
        rintro e w2 ⟨rfl, hE⟩
        exact ⟨_, rfl, hE, rfl⟩
    · refine op_value fun a w c => ⟨(wanted_plain rfl), _, op_eq_val rfl ((c.new 0 19 (by kernel_rfl) (by kernel_rfl)) : a.eval (.tmp 19) = vv 1 5 ⟨#[]⟩) ((c.new 1 20 (by kernel_rfl) (by kernel_rfl)) : a.eval (.tmp 20) = vv 1 5 ⟨#[]⟩), congrArg Value.bool (sameV_self _ _ _)⟩
    · refine op_value fun a w c => ⟨(wanted_plain rfl), _, run_move _ rfl w, (c.new 2 21 (by kernel_rfl) (by kernel_rfl))⟩
    · refine op_value fun a w c => ⟨(wanted_yes rfl (by kernel_rfl) (c.new 3 22 (by kernel_rfl) (by kernel_rfl))), _, run_move _ rfl w, (c.was 2 (by kernel_rfl) rfl)⟩
    · refine op_value fun a w c => ⟨(wanted_yes rfl (by kernel_rfl) (c.new 3 22 (by kernel_rfl) (by kernel_rfl))), .bool true, ?_, rfl⟩
      have e23 : a.eval (.tmp 23) = .int .i64 0 := (c.new 4 23 (by kernel_rfl) (by kernel_rfl))
      have kc0 : a.eval (.const (.int .i64 0)) = .int .i64 0 := rfl
      generalize a.eval = ρ at e23 kc0 ⊢
      simp [execOp, e23, kc0, go_sem]
    · refine op_value fun a w c => ⟨(wanted_plain rfl), _, run_pick_true rfl (c.new 3 22 (by kernel_rfl) (by kernel_rfl)) w, (c.new 5 24 (by kernel_rfl) (by kernel_rfl))⟩
    · refine op_value fun a w c => ⟨(wanted_plain rfl), _, run_move _ rfl w, (c.new 6 25 (by kernel_rfl) (by kernel_rfl))⟩
    · refine op_value fun a w c => ⟨(wanted_yes rfl (by kernel_rfl) (c.new 7 26 (by kernel_rfl) (by kernel_rfl))), _, run_move _ rfl w, (c.was 4 (by kernel_rfl) rfl)⟩
    · refine op_value fun a w c => ⟨(wanted_yes rfl (by kernel_rfl) (c.new 7 26 (by kernel_rfl) (by kernel_rfl))), .bool true, ?_, rfl⟩
      have e27 : a.eval (.tmp 27) = .int .i64 22 := (c.new 8 27 (by kernel_rfl) (by kernel_rfl))
      have kc0 : a.eval (.const (.int .i64 22)) = .int .i64 22 := rfl
      generalize a.eval = ρ at e27 kc0 ⊢
      simp [execOp, e27, kc0, go_sem]
    · refine op_value fun a w c => ⟨(wanted_plain rfl), _, run_pick_true rfl (c.new 7 26 (by kernel_rfl) (by kernel_rfl)) w, (c.new 9 28 (by kernel_rfl) (by kernel_rfl))⟩
    · refine op_value fun a w c => ⟨(wanted_plain rfl), _, run_assign _ rfl w, (c.new 10 29 (by kernel_rfl) (by kernel_rfl))⟩
  intro sl wr hEr hold hnew
  have f1 : sl 1 = .pointer (some ⟨pv, 0, none⟩) := hold 1 (by kernel_rfl)
  have f2 : sl 2 = .int .i64 0 := hold 2 (by kernel_rfl)
  have f4 : sl 4 = .int .i64 22 := hold 4 (by kernel_rfl)
  have f0 : sl 0 = .bool true := hnew 11 0 (by kernel_rfl)
  have f19 : sl 19 = vv 1 5 ⟨#[]⟩ := hnew 0 19 (by kernel_rfl)
  have f20 : sl 20 = vv 1 5 ⟨#[]⟩ := hnew 1 20 (by kernel_rfl)
  have f21 : sl 21 = .bool true := hnew 2 21 (by kernel_rfl)
  have f22 : sl 22 = .bool true := hnew 3 22 (by kernel_rfl)
  have f23 : sl 23 = .int .i64 0 := hnew 4 23 (by kernel_rfl)
  have f24 : sl 24 = .bool true := hnew 5 24 (by kernel_rfl)
  have f25 : sl 25 = .bool true := hnew 6 25 (by kernel_rfl)
  have f26 : sl 26 = .bool true := hnew 7 26 (by kernel_rfl)
  have f27 : sl 27 = .int .i64 22 := hnew 8 27 (by kernel_rfl)
  have f28 : sl 28 = .bool true := hnew 9 28 (by kernel_rfl)
  have f29 : sl 29 = .bool true := hnew 10 29 (by kernel_rfl)
  change Exit.then _ _ .normal ⟨#[sl 0, sl 1, sl 2, sl 3, sl 4, sl 5, sl 6, sl 7, sl 8, sl 9, sl 10, sl 11, sl 12, sl 13, sl 14, sl 15, sl 16, sl 17, sl 18, sl 19, sl 20, sl 21, sl 22, sl 23, sl 24, sl 25, sl 26, sl 27, sl 28, sl 29], _⟩ _
  simp only [f1, f2, f4, f0, f19, f20, f21, f22, f23, f24, f25, f26, f27, f28, f29]
  clear hold hnew
  go_wp2
  go_ret
  exact ⟨rfl, E7.trans hEr⟩
end Go.Proofs.Ytgiofdmedhhobaa

namespace Go.Proofs.Ytgiofdmedhhobaa
open Go.RowKit
set_option linter.unusedVariables false

abbrev kidsTV : Value := .func (.func 25) #[] #[]
/-- The Kids that count, as they lie. -/
structure KidsAt (b0 : Nat) (w : World) (x : M) (A : Option Addr) (n cap : Nat) (Z : List M) : Prop where
  call : ∀ w1, Calls Try.prog 25 #[.agg #[.int .i64 x.kind, .string ⟨x.s.toArray⟩, .int .i64 x.n, .slice x.A x.kids.length x.cap, .int .i64 (x.pos : Int)]] w1 fun e w' => e = .returned (.slice A n cap) ∧ Ev w1 w'
  sl : Ms w A n cap Z
  lies : ∀ y ∈ Z, Lies b0 [] w y
  size : (Z.map fun x => x.t.size).sum + 1 ≤ x.t.size
  len : Z.length = n

set_option maxRecDepth 100000 in
theorem kids_at {b0 : Nat} {w : World} {x : M} (h : Lies b0 [] w x) : ∃ A n cap Z, KidsAt b0 w x A n cap Z := by
  by_cases hk : x.kind = 1
  · refine ⟨x.A, x.kids.length, x.cap, x.kids, fun w1 => ?_, h.ms, h.kid, ?_, rfl⟩
    · rw [hk]
      go_enter Try.func25, Try.ntmps25
      go_wp2
      go_ret
      exact ⟨rfl, Ev.alloc _ _⟩
    · have h1 := T.size_eq x.t
      rw [M.t_kids, List.map_map] at h1
      have : (T.size ∘ M.t) = (fun x : M => x.t.size) := rfl
      rw [this] at h1
      omega
  · refine ⟨none, 0, 0, [], fun w1 => ?_, Sl.nil_ w, (fun y hy => by cases hy), ?_, rfl⟩
    · have hk' : (x.kind != 1) = true := by simp [hk]
      go_enter Try.func25, Try.ntmps25
      go_wp2
      go_ret
      exact ⟨rfl, Ev.alloc _ _⟩
    · have := T.size_pos x.t
      simp
      omega
/-- How far the parts are gathered. -/
structure PtT (m : M) (b0 : Nat) (w0 : World) (v : Value) (L : List M) (i : Nat) (w : World) : Prop where
  own : Ow 45 5 mc w0.heap.size w v L
  ev : Ev w0 w
  lies : ∀ x ∈ L, Lies b0 [] w0 x
  le : i ≤ L.length
  size : i + ((L.drop i).map fun x => x.t.size).sum ≤ m.t.size
theorem PtT.short {m : M} {b0 : Nat} {w0 w : World} {v : Value} {L : List M} {i : Nat} (h : PtT m b0 w0 v L i w) : L.length ≤ m.t.size := by
  have h1 := sum_len ((L.drop i).map M.t)
  rw [List.length_map, List.length_drop, List.map_map] at h1
  have h2 := h.size
  have h3 := h.le
  have : (T.size ∘ M.t) = (fun x : M => x.t.size) := rfl
  rw [this] at h1
  omega
theorem PtT.next {m : M} {b0 : Nat} {w0 w w' : World} {v v' : Value} {L Z : List M} {i : Nat} {x : M} (h : PtT m b0 w0 v L i w) (hx : L[i]? = some x) (hZ : ∀ y ∈ Z, Lies b0 [] w0 y) (hs : (Z.map fun x => x.t.size).sum + 1 ≤ x.t.size) (ho : Ow 45 5 mc w0.heap.size w' v' (L ++ Z)) (hE : Ev w0 w') : PtT m b0 w0 v' (L ++ Z) (i + 1) w' := by
  obtain ⟨hi, hxe⟩ := List.getElem?_eq_some_iff.1 hx
  have hd : L.drop i = x :: L.drop (i + 1) := by rw [List.drop_eq_getElem_cons hi, hxe]
  have hd2 : (L ++ Z).drop (i + 1) = L.drop (i + 1) ++ Z := by rw [List.drop_append_of_le_length hi]
  refine ⟨ho, hE, fun y hy => ?_, by rw [List.length_append]; omega, ?_⟩
  · rcases List.mem_append.1 hy with h1 | h1
    · exact h.lies y h1
    · exact hZ y h1
  · have h1 := h.size
    rw [hd] at h1
    rw [hd2]
    simp only [List.map_append, List.sum_append, List.map_cons, List.sum_cons] at h1 ⊢
    omega

set_option maxRecDepth 100000 in
set_option maxHeartbeats 1600000 in
theorem ex_partsT (m : M) (b0 : Nat) (w : World) (h : Lies b0 [] w m) (hsz : m.t.size ≤ 16000) :
    Calls Try.prog 24 #[.agg #[.int .i64 m.kind, .string ⟨m.s.toArray⟩, .int .i64 m.n, .slice m.A m.kids.length m.cap, .int .i64 (m.pos : Int)], kidsTV] w fun e w' => ∃ (A : Option Addr) (n cap : Nat), e = .returned (.tuple #[.slice A n cap, .bool true]) ∧ Ev w w' := by
  have hE0 := (Ev.alloc w (.cells #[.int .i64 m.kind, .string ⟨m.s.toArray⟩, .int .i64 m.n, .slice m.A m.kids.length m.cap, .int .i64 (m.pos : Int)] 45)).trans (Ev.alloc _ (.cells #[.int .i64 m.kind, .string ⟨m.s.toArray⟩, .int .i64 m.n, .slice m.A m.kids.length m.cap, .int .i64 (m.pos : Int)] 45))
  have hP : PtT m b0 w (.slice (some ⟨w.heap.size + 1, 0, none⟩) 1 1) [m] 0 ((w.alloc (.cells #[.int .i64 m.kind, .string ⟨m.s.toArray⟩, .int .i64 m.n, .slice m.A m.kids.length m.cap, .int .i64 (m.pos : Int)] 45)).alloc (.cells #[.int .i64 m.kind, .string ⟨m.s.toArray⟩, .int .i64 m.n, .slice m.A m.kids.length m.cap, .int .i64 (m.pos : Int)] 45)) := by
    refine ⟨?_, hE0, fun x hx => by simp at hx; subst hx; exact h, by simp, by simp⟩
    have := Ow.made (et := 45) (base := w.heap.size) encM (w.alloc (.cells #[.int .i64 m.kind, .string ⟨m.s.toArray⟩, .int .i64 m.n, .slice m.A m.kids.length m.cap, .int .i64 (m.pos : Int)] 45)) [m] #[.int .i64 m.kind, .string ⟨m.s.toArray⟩, .int .i64 m.n, .slice m.A m.kids.length m.cap, .int .i64 (m.pos : Int)] rfl (by simp) (by simp)
    simpa using this
  have HP := Lib.hid hP
  clear hP hE0
  go_enter Try.func24, Try.ntmps24
  go_wp2
  go_loopw [6, 7] (fun av iv wr => ∃ (A : Option Addr) (n cap i : Nat) (L : List M), av = .slice A n cap ∧ iv = .int .i64 (i : Int) ∧ n = L.length ∧ Hid (PtT m b0 w (.slice A n cap) L i wr)) (fun _ iv _ => m.t.size - (intOf iv).toNat)
  case atStart => exact ⟨_, 1, 1, 0, [m], rfl, rfl, rfl, HP⟩
  case round =>
    obtain ⟨A, n, cap, i, L, rfl, rfl, hn, HS⟩ := hrel
    have hns := HS.out.short
    rw [← hn] at hns
    have HNL := Lib.hid hn
    clear hn
    obtain ⟨_, cap', hvv, hSl, hA⟩ := HS.out.own.form encM
    injection hvv with h1 h2 h3
    subst h1
    subst h3
    clear h2
    rw [← HNL.out] at hSl
    have hnc := hSl.le
    have hcm := hSl.max
    by_cases hi : i < n
    · obtain ⟨x, hx⟩ := hSl.at hi
      obtain ⟨b, off, rfl, hb, c0, c1, c2, c3, c4⟩ := Ms.cell hSl hx
      have HX := Lib.hid hx
      have hLx := HS.out.lies x (List.mem_of_getElem? hx)
      obtain ⟨xA, xn, xcap, Z, hKA⟩ := kids_at hLx
      have hks : xn + n ≤ m.t.size := by
        have h4 := HS.out.size
        have hd : L.drop i = x :: L.drop (i + 1) := by
          obtain ⟨hi', e⟩ := List.getElem?_eq_some_iff.1 hx
          rw [List.drop_eq_getElem_cons hi', e]
        rw [hd] at h4
        have h5 := hKA.size
        have h6 := sum_len (Z.map M.t)
        rw [List.length_map, List.map_map, hKA.len] at h6
        have h7 := sum_len ((L.drop (i + 1)).map M.t)
        rw [List.length_map, List.map_map, List.length_drop, ← HNL.out] at h7
        have : (T.size ∘ M.t) = (fun x : M => x.t.size) := rfl
        rw [this] at h6 h7
        simp only [List.map_cons, List.sum_cons] at h4
        omega
      have HKA := Lib.hid hKA
      have HKC := Lib.hid hKA.call
      have HKL := Lib.hid hKA.len
      have kc1 := hKA.sl.le
      have kc2 := hKA.sl.max
      unfold M.kv at c3
      have i1 : (0 : Int) ≤ (i : Int) := by omega
      have i2 : (i : Int) < (n : Int) := by omega
      have i3 : ¬ ((16384 : Int) - (n : Int) < (xn : Int)) := by omega
      clear hx hLx hA hSl hb hKA
      go_wp2_with (first
        | ((with_reducible refine (HKC.out _).mono ?_); rintro e w1 ⟨rfl, hE1⟩)
        | ((show wpList _ _ _ (⟨some 31, _, _, _, _, _⟩ :: _) _ _); refine wpList_append_ow (o := ⟨some 31, _, _, _, _, _⟩) rfl 43 (.tmp 29) (.tmp 30) rfl encM Try.underlying43 Try.infoTree rfl rfl (HS.out.own.ev hE1) xA xn xcap Z rfl (HKA.out.sl.ev (HS.out.ev.trans hE1)) (by rw [HKL.out, ← HNL.out]; omega) (by rw [HKL.out, ← HNL.out]; omega) (HS.out.ev.trans hE1).size ?_; intro v2 w2 hA2; have E2 := ((But.of_ev (HS.out.ev.trans hE1)).then hA2.2.1).ev (fun k hk => (HS.out.own.lt (mem_foot.1 hk)).1); have S2 := HS.out.next HX.out HKA.out.lies HKA.out.size hA2.1 E2; obtain ⟨A2, cap2, rfl, _, _⟩ := hA2.1.form encM; generalize hnn : (L ++ Z).length = nn at S2 ⊢; have HNN2 := Lib.hid hnn.symm; clear hnn))
      go_roundw
      case rel => exact ⟨A2, nn, cap2, i + 1, _, rfl, by go_num, HNN2.out, Lib.hid S2⟩
      case measure => simp [intOf]; omega
    · have hin : i = L.length := by have := HS.out.le; have := HNL.out; omega
      have i2 : ¬ ((i : Int) < (n : Int)) := by omega
      go_wp2
      go_ret2
      exact ⟨⟨_, _, _, rfl⟩, HS.out.ev⟩
/-- The result's box is written: what lies in newer blocks stays. -/
theorem rx_finish {w wa wb : World} {x : M} {g : Nat} (hE : Ev w wb) (hg : w.heap.size ≤ g) (hL : Lx wa.heap.size [] wb x) (hga : g < wa.heap.size) (v0 v1 v2 v3 : Value) : Lx w.heap.size [] (set4 g v0 v1 v2 v3 wb) x ∧ Ev w (set4 g v0 v1 v2 v3 wb) :=
  ⟨((hL.less (K' := [g]) fun k hk => by simp at hk; subst hk; exact .inr (.inl hga)).move (set4_but _ _ _ _ _ _) fun k hk => by cases hk).low (by omega), hE.box (set4_but _ _ _ _ _ _) hg⟩
theorem bx_two (w : World) (c0 c1 c2 c3 c4 : Value) : ∃ w0, (w.alloc (.cells #[c0, c1, c2, c3, c4] 45)).alloc (.cells #[.int .i64 0, .string ⟨#[]⟩, .int .i64 0, .slice none 0 0] 39) = w0 ∧ Ev w w0 ∧ Bx 45 w.heap.size #[c0, c1, c2, c3, c4] w0 ∧ Bx 39 (w.heap.size + 1) #[.int .i64 0, .string ⟨#[]⟩, .int .i64 0, .slice none 0 0] w0 ∧ w.heap.size + 1 < w0.heap.size := by
  have hB : Bx 39 (w.heap.size + 1) #[.int .i64 0, .string ⟨#[]⟩, .int .i64 0, .slice none 0 0] ((w.alloc (.cells #[c0, c1, c2, c3, c4] 45)).alloc (.cells #[.int .i64 0, .string ⟨#[]⟩, .int .i64 0, .slice none 0 0] 39)) := by
    have := Bx.new 39 #[.int .i64 0, .string ⟨#[]⟩, .int .i64 0, .slice none 0 0] (w.alloc (.cells #[c0, c1, c2, c3, c4] 45))
    simpa using this
  exact ⟨_, rfl, (Ev.alloc w _).trans (Ev.alloc _ _), (Bx.new 45 #[c0, c1, c2, c3, c4] w).ev (Ev.alloc _ _), hB, hB.lt⟩

set_option maxRecDepth 100000 in
set_option maxHeartbeats 1600000 in
theorem ex_wrong (why : Int) (m : M) (w : World) : Calls Try.prog 26 #[.int .i64 why, .agg #[.int .i64 m.kind, .string ⟨m.s.toArray⟩, .int .i64 m.n, .slice m.A m.kids.length m.cap, .int .i64 (m.pos : Int)]] w (RxOut (sxZero, why, m.pos) w) := by
  obtain ⟨w0, hw0, hE0, hX, hB, hlt⟩ := bx_two w (.int .i64 m.kind) (.string ⟨m.s.toArray⟩) (.int .i64 m.n) (.slice m.A m.kids.length m.cap) (.int .i64 (m.pos : Int))
  have HE := Lib.hid hE0
  have HB := Lib.hid hB
  obtain ⟨⟨c0, c1, c2, c3, c4⟩, _⟩ := hX.five
  obtain ⟨⟨b0_, b1_, b2_, b3_⟩, g0_, g1_, g2_, g3_⟩ := hB.four
  clear hE0 hX hB
  go_enter Try.func26, Try.ntmps26
  go_wp2
  go_region
  all_goals (
    go_wp2
    (try simp only [Exit.inBlock, Exit.then])
    rw [set4_fold]
    refine bodyPost_ret (results_cell2' rfl _ _ _ _ _ rfl ((HB.out.ev (Ev.drew w0)).set4 _ _ _ _) Try.underlying39 rfl Try.sizeExpr) rfl ?_
    exact ⟨mzero, rfl, rfl, Lx.leaf, (HE.out.trans (Ev.drew w0)).box (set4_but _ _ _ _ _ _) (by omega)⟩
    )
end Go.Proofs.Ytgiofdmedhhobaa

namespace Go.Proofs.Ytgiofdmedhhobaa
open Go.RowKit
set_option linter.unusedVariables false

/-- A call of a Go function as one step of a region, the world may grow. -/
theorem step_callw {α : Type} {P : Program} {ops : Array Oper} {o : Oper} {a : Act} {w : World} {K : Act → World → Prop} {Q : Exit → Act → World → Prop} {E : Prop}
    (hg : o.guard = none) (f : FuncId) (xs : Array Operand) (ts : Array TypeId) (hop : o.op = .call { callee := .value (.func f), args := xs, argTypes := ts }) (hb : bodied P f = true) (args : Array Value) (ha : xs.map a.eval = args) {F : α → Value} {S : α → World → Prop}
    (hc : Calls P f args w fun e w' => ∃ x : α, e = .returned (F x) ∧ S x w') (hK : ∀ x w', S x w' → K (a.put o.dst (F x)) w') :
    if Region.wanted o (yielded ops a.tmps) = true then Oper.wp P o a w K Q else E := by
  rw [if_pos (wanted_plain hg)]
  unfold Oper.wp
  rw [run_call f xs ts hop hb w, ha]
  refine hc.mono ?_
  rintro e w' ⟨x, rfl, h⟩
  exact hK x w' h
theorem step_append_ow {α : Type} {k : Nat} {enc : α → List Value} {et : TypeId} {base : Nat} {v : Value} {Z : List α} {P : Program} {ops : Array Oper} {o : Oper} {a : Act} {w : World} {K : Act → World → Prop} {Q : Exit → Act → World → Prop} {E0 : Prop}
    (hg : o.guard = none) (T : TypeId) (s x : Operand) (hop : o.op = .call { callee := .builtin .append, args := #[s, x], argTypes := #[T, T] }) (E : Enc k enc)
    (ht : P.underlying T = some (.slice et)) {zero : Value} {bytes : Nat} (hi : (P.info? et).map (fun i => (i.zero, i.size, i.bytes)) = some (some zero, k, bytes)) (hz : zero.cells.size = k)
    (hs : a.eval s = v) (hown : Ow et k enc base w v Z) (A : Option Addr) (m c : Nat) (l : List α) (hx : a.eval x = .slice A m c) (hB : Sl k enc w A m c l)
    (hbytes : (Z.length + l.length) * bytes ≤ 140737488355328) (hsm : Z.length + l.length ≤ 1000000000) (hbase : base ≤ w.heap.size)
    (hK : ∀ v' w', AppSt et k enc base w v (Z ++ l) v' w' → K (a.put o.dst v') w') :
    if Region.wanted o (yielded ops a.tmps) = true then Oper.wp P o a w K Q else E0 := by
  rw [if_pos (wanted_plain hg)]
  obtain ⟨v', w', hr, h2, h3, h4, _⟩ := run_append_ow (P := P) E T o.type ht hi hz hown A m c l hB hbytes hsm hbase
  unfold Oper.wp execOp
  simp only [hop, resolve, invoke, builtin, Sem.run_bind, Sem.run_pure, Result.andThen_ok, List.map_toArray, List.map_cons, List.map_nil, hs, hx, hr]
  exact hK _ _ ⟨h2, h3, h4⟩

/-- A tree that is being made in box ge: its Kids so far. -/
structure TrSt (w1 : World) (ge : Nat) (m : M) (A : Option Addr) (n cap : Nat) (L : List M) (w : World) : Prop where
  box : Bx 45 ge #[.int .i64 m.kind, .string ⟨m.s.toArray⟩, .int .i64 m.n, .slice A n cap, .int .i64 (m.pos : Int)] w
  own : Ow 45 5 mc (ge + 1) w (.slice A n cap) L
  len : L.length = n
  lies : ∀ x ∈ L, Lies (ge + 1) (foot (.slice A n cap)) w x
  ev : Ev w1 w
  ge_ : w1.heap.size ≤ ge
theorem TrSt.init (w1 : World) (m : M) : TrSt w1 w1.heap.size m none 0 0 [] (w1.alloc (.cells #[.int .i64 m.kind, .string ⟨m.s.toArray⟩, .int .i64 m.n, .slice none 0 0, .int .i64 (m.pos : Int)] 45)) :=
  ⟨Bx.new _ _ w1, Ow.nil_ _, rfl, (fun x hx => by cases hx), Ev.alloc _ _, Nat.le_refl _⟩
theorem TrSt.next {w1 wr wq w2 : World} {ge n cap : Nat} {m : M} {A : Option Addr} {L : List M} {x : M} {v2 : Value} (h : TrSt w1 ge m A n cap L wr) (hE : Ev wr wq) (hx : Lies wr.heap.size [] wq x) (hA : AppSt 45 5 mc (ge + 1) wq (.slice A n cap) (L ++ [x]) v2 w2) :
    ∃ A2 cap2, v2 = .slice A2 (n + 1) cap2 ∧ TrSt w1 ge m A2 (n + 1) cap2 (L ++ [x]) (w2.setCell ⟨ge, 3, none⟩ v2) := by
  obtain ⟨ho, hb, hs⟩ := hA
  obtain ⟨A2, cap2, rfl, hSl, hAd⟩ := ho.form encM
  have hl : (L ++ [x]).length = n + 1 := by rw [List.length_append, h.len]; rfl
  rw [hl] at ho hs hSl hAd ⊢
  have hgl := h.box.lt
  have hK : ge ∉ foot (.slice A n cap) := fun hm => by have := (h.own.lt (mem_foot.1 hm)).1; omega
  have hK2 : ∀ g, (Value.slice A2 (n + 1) cap2).ownBlock = some g → ge + 1 ≤ g := fun g hg => (ho.lt hg).1
  have hB2 : Bx 45 ge #[.int .i64 m.kind, .string ⟨m.s.toArray⟩, .int .i64 m.n, .slice A n cap, .int .i64 (m.pos : Int)] w2 := (h.box.ev hE).but hb hK
  have hBS : But [ge] w2 (w2.setCell ⟨ge, 3, none⟩ (.slice A2 (n + 1) cap2)) := But.setCell _ _ (by simp)
  refine ⟨A2, cap2, rfl, ?_, ?_, hl, fun y hy => ?_, ?_, h.ge_⟩
  · have := hB2.set 3 (.slice A2 (n + 1) cap2)
    simpa using this
  · exact ho.but hBS fun g hg => by have := hK2 g hg; simp; omega
  · have hy2 : Lies (ge + 1) (foot (.slice A n cap)) wq y := by
      rcases List.mem_append.1 hy with h1 | h1
      · exact (h.lies y h1).ev hE
      · simp at h1
        subst h1
        refine (hx.less fun k hk => .inr (.inl ?_)).low (by omega)
        exact (h.own.lt (mem_foot.1 hk)).2
    have hy3 : Lies (ge + 1) (foot (.slice A2 (n + 1) cap2)) w2 y := hy2.move hb fun k hk => by
      rcases hs k (mem_foot.1 hk) with h1 | h1
      · exact .inl (mem_foot.2 h1)
      · exact .inr (.inr h1)
    have hy4 : Lies (ge + 1) (ge :: foot (.slice A2 (n + 1) cap2)) w2 y := hy3.less fun k hk => by
      rcases List.mem_cons.1 hk with rfl | h1
      · exact .inr (.inl (by omega))
      · exact .inl h1
    exact hy4.move (hBS.wide fun k hk => by simp at hk; subst hk; exact .inl (by simp)) fun k hk => .inl (List.mem_cons_of_mem _ hk)
  · have h1 : Ev w1 w2 := ((But.of_ev (h.ev.trans hE)).then hb).ev fun k hk => by have := (h.own.lt (mem_foot.1 hk)).1; have := h.ge_; omega
    exact h1.box hBS h.ge_
theorem TrSt.after {w1 wr wq w2 : World} {ge n cap : Nat} {m : M} {A : Option Addr} {L : List M} {L' : List M} {v2 : Value} (h : TrSt w1 ge m A n cap L wr) (hE : Ev wr wq) (hA : AppSt 45 5 mc (ge + 1) wq (.slice A n cap) L' v2 w2) :
    Bx 45 ge #[.int .i64 m.kind, .string ⟨m.s.toArray⟩, .int .i64 m.n, .slice A n cap, .int .i64 (m.pos : Int)] w2 :=
  (h.box.ev hE).but hA.2.1 fun hm => by have := (h.own.lt (mem_foot.1 hm)).1; omega
theorem TrSt.done {w1 w : World} {ge n cap : Nat} {m : M} {A : Option Addr} {L : List M} (h : TrSt w1 ge m A n cap L w) {b0 : Nat} (hb : b0 ≤ ge) : Lies b0 [] w (.mk m.kind m.s m.n A cap L m.pos) ∧ n = L.length := by
  obtain ⟨A2, cap2, hv, hSl, hAd⟩ := h.own.form encM
  injection hv with h1 h2 h3
  subst h1; subst h3
  refine ⟨.mk hSl (fun ad e => ⟨by have := (hAd ad e).2.1; omega, (hAd ad e).2.2.1, by simp⟩) fun k hk => ((h.lies k hk).less fun x hx => by cases hx).low (by omega), h2⟩
/-- What comes back: the same tree, in new memory. -/
def TrOut (t : T) (w : World) (e : Ending) (w' : World) : Prop := ∃ x : M, e = .returned (.agg #[.int .i64 x.kind, .string ⟨x.s.toArray⟩, .int .i64 x.n, .slice x.A x.kids.length x.cap, .int .i64 (x.pos : Int)]) ∧ x.t = t ∧ Lies w.heap.size [] w' x ∧ Ev w w'

set_option maxRecDepth 100000 in
set_option maxHeartbeats 8000000 in
theorem law8_out (N : Nat) : ∀ (m : M) (b0 : Nat) (w : World), m.dep ≤ N → Lies b0 [] w m → m.t.size ≤ 100000 → Calls Try.prog 9 #[mv m] w (TrOut m.t w) := by
  induction N with
  | zero =>
    intro m b0 w hd
    rw [M.dep_eq] at hd
    omega
  | succ N ih =>
    intro m b0 w hd hL hsz
    have hkl : m.kids.length ≤ 100000 := by
      have h1 := T.size_eq m.t
      have h2 := sum_len m.t.kids
      rw [M.t_kids, List.length_map] at h2
      rw [M.t_kids] at h1
      omega
    have HSZ := Lib.hid hsz
    have hms := hL.ms
    have HIH := Lib.hid ih
    have HL := Lib.hid hL
    have HD := Lib.hid hd
    obtain ⟨kn, hkn⟩ : ∃ kn, kn = m.kids.length := ⟨_, rfl⟩
    unfold mv M.kv
    rw [← hkn] at hms hkl ⊢
    have HKN := Lib.hid hkn
    generalize hmA : m.A = mA at *
    generalize hmc : m.cap = mcap at *
    have hcm := hms.max
    have hle := hms.le
    have HMS := Lib.hid hms
    have hE0 := (Ev.alloc w (.cells #[.int .i64 m.kind, .string ⟨m.s.toArray⟩, .int .i64 m.n, .slice mA kn mcap, .int .i64 (m.pos : Int)] 34)).trans (Ev.alloc _ (.cells #[.int .i64 0, .string ⟨#[]⟩, .int .i64 0, .slice none 0 0, .int .i64 0] 45))
    have hX := (Bx.new 34 #[.int .i64 m.kind, .string ⟨m.s.toArray⟩, .int .i64 m.n, .slice mA kn mcap, .int .i64 (m.pos : Int)] w).ev (Ev.alloc _ (.cells #[.int .i64 0, .string ⟨#[]⟩, .int .i64 0, .slice none 0 0, .int .i64 0] 45))
    have hB : Bx 45 (w.heap.size + 1) #[.int .i64 0, .string ⟨#[]⟩, .int .i64 0, .slice none 0 0, .int .i64 0] ((w.alloc (.cells #[.int .i64 m.kind, .string ⟨m.s.toArray⟩, .int .i64 m.n, .slice mA kn mcap, .int .i64 (m.pos : Int)] 34)).alloc (.cells #[.int .i64 0, .string ⟨#[]⟩, .int .i64 0, .slice none 0 0, .int .i64 0] 45)) := by
      have := Bx.new 45 #[.int .i64 0, .string ⟨#[]⟩, .int .i64 0, .slice none 0 0, .int .i64 0] (w.alloc (.cells #[.int .i64 m.kind, .string ⟨m.s.toArray⟩, .int .i64 m.n, .slice mA kn mcap, .int .i64 (m.pos : Int)] 34))
      simpa using this
    obtain ⟨w0, hw0⟩ : ∃ w0, (w.alloc (.cells #[.int .i64 m.kind, .string ⟨m.s.toArray⟩, .int .i64 m.n, .slice mA kn mcap, .int .i64 (m.pos : Int)] 34)).alloc (.cells #[.int .i64 0, .string ⟨#[]⟩, .int .i64 0, .slice none 0 0, .int .i64 0] 45) = w0 := ⟨_, rfl⟩
    rw [hw0] at hE0 hX hB
    have HE := Lib.hid hE0
    have HX := Lib.hid hX
    have HB := Lib.hid hB
    have hI := TrSt.init w0 m
    have HI0 := Lib.hid hI
    obtain ⟨⟨c0, c1, c2, c3, c4⟩, _⟩ := hX.five
    clear ih hL hd hkn hE0 hX hB hmA hmc hms hI hsz
    go_enter Try.func9, Try.ntmps9
    go_wp2
    go_loopw [4] (fun iv wr => ∃ (A : Option Addr) (n cap : Nat) (L : List M), iv = .int .i64 (n : Int) ∧ n ≤ kn ∧ Hid (TrSt w0 w0.heap.size m A n cap L wr) ∧ Hid (L.map M.t = (m.kids.take n).map M.t)) (fun iv _ => kn - (intOf iv).toNat)
    case atStart => exact ⟨none, 0, 0, [], rfl, Nat.zero_le _, HI0, Lib.hid (by simp)⟩
    case round =>
      obtain ⟨A, n, cap, L, rfl, hj, HS, HR⟩ := hrel
      have HEW := Lib.hid (HE.out.trans HS.out.ev)
      have HEW0 := Lib.hid HS.out.ev
      obtain ⟨⟨c0, c1, c2, c3, c4⟩, _⟩ := (HX.out.ev HEW0.out).five
      obtain ⟨⟨b0_, b1_, b2_, b3_, b4_⟩, g0_, g1_, g2_, g3_, g4_⟩ := (HB.out.ev HEW0.out).five
      obtain ⟨⟨d0, d1, d2, d3, d4⟩, r0, r1, r2, r3, r4⟩ := HS.out.box.five
      by_cases hlt : n < kn
      · obtain ⟨x, hx⟩ : ∃ x, m.kids[n]? = some x := ⟨_, List.getElem?_eq_getElem (by have := HKN.out; omega)⟩
        obtain ⟨b, off, rfl, _, x0, x1, x2, x3, x4⟩ := Ms.cell (HMS.out.ev HEW.out) hx
        have hxk := List.mem_of_getElem? hx
        have hxs : x.t.size ≤ 100000 := by
          have h5 := T.size_eq m.t
          rw [M.t_kids, List.map_map] at h5
          have h6 := mem_le_sum (List.mem_map.2 ⟨x, hxk, rfl⟩ : x.t.size ∈ m.kids.map (T.size ∘ M.t))
          have := HSZ.out
          omega
        have HI := fun w1 (hE : Ev w w1) => HIH.out x b0 w1 (by have := M.kid_dep hxk; have := HD.out; omega) ((HL.out.kid x hxk).ev hE) hxs
        have HTK : Hid ((m.kids.take (n + 1)).map M.t = (m.kids.take n).map M.t ++ [x.t]) := Lib.hid (by
          obtain ⟨hk2, e⟩ := List.getElem?_eq_some_iff.1 hx
          rw [List.take_succ_eq_append_getElem hk2, e, List.map_append]
          rfl)
        unfold mv M.kv TrOut at HI
        unfold M.kv at x3
        have HI := Lib.hid HI
        have hnb : n ≤ 200000 := by omega
        have HLL := Lib.hid HS.out.len
        have i2 : (n : Int) < (kn : Int) := by omega
        have i3 : (0 : Int) ≤ (n : Int) := by omega
        have HGL := Lib.hid HS.out.box.lt
        clear hx hxk hxs
        go_wp2
        go_region_law (first
          | (refine step_callw rfl 9 #[.tmp 27] #[34] rfl (by kernel_rfl) _ (by simp only [List.map_toArray, List.map_cons, List.map_nil]; rfl) (HI.out _ (HEW.out.trans (Ev.drew wr))) ?_; rintro x' w1 ⟨hxt, hxl, hE1⟩; dsimp only; have HXT := Lib.hid hxt; have HXL := Lib.hid hxl; have E1 := Lib.hid ((Ev.drew wr).trans hE1); obtain ⟨⟨d0', d1', d2', d3', d4'⟩, r0', r1', r2', r3', r4'⟩ := (HS.out.box.ev E1.out).five; obtain ⟨⟨e0', e1', e2', e3', e4'⟩, s0', s1', s2', s3', s4'⟩ := (HS.out.box.ev (E1.out.trans (Ev.alloc w1 (.cells #[.int .i64 x'.kind, .string ⟨x'.s.toArray⟩, .int .i64 x'.n, .slice x'.A x'.kids.length x'.cap, .int .i64 (x'.pos : Int)] 45)))).five; clear hxt hxl)
          | (refine step_append_ow rfl 43 (.tmp 22) (.tmp 29) rfl encM Try.underlying43 Try.infoTree rfl rfl (HS.out.own.ev (E1.out.trans (Ev.alloc w1 _))) (some ⟨w1.heap.size, 0, none⟩) 1 1 [x'] rfl (Sl.one (et := 45) encM w1 x' _ rfl) (by rw [HLL.out]; simp; omega) (by rw [HLL.out]; simp; omega) (by have h7 := HGL.out; have h8 := (E1.out.trans (Ev.alloc w1 (.cells #[.int .i64 x'.kind, .string ⟨x'.s.toArray⟩, .int .i64 x'.n, .slice x'.A x'.kids.length x'.cap, .int .i64 (x'.pos : Int)] 45))).size; omega) ?_; intro v2 w2 hA2; obtain ⟨⟨d0, d1, d2, d3, d4⟩, r0, r1, r2, r3, r4⟩ := (HS.out.after (E1.out.trans (Ev.alloc w1 _)) hA2).five; obtain ⟨A2, cap2, rfl, ST2⟩ := HS.out.next (E1.out.trans (Ev.alloc w1 _)) (HXL.out.ev (Ev.alloc w1 _)) hA2))
        all_goals (
          go_wp2
          go_roundw
          case rel => exact ⟨A2, n + 1, cap2, L ++ [x'], by go_num, by omega, Lib.hid ST2, Lib.hid (by rw [HTK.out, List.map_append, HR.out, List.map_cons, List.map_nil, HXT.out])⟩
          case measure => simp [intOf]; omega)
      · have hjk : n = kn := by omega
        have i2 : ¬ ((n : Int) < (kn : Int)) := by omega
        obtain ⟨hlx, hnl⟩ := HS.out.done (b0 := w.heap.size) HE.out.size
        have hlg := (HS.out.done (b0 := w0.heap.size) (Nat.le_refl _)).1
        have hgew : w.heap.size + 1 < w0.heap.size := HB.out.lt
        have HLXG := Lib.hid (hlg.less (K' := [w.heap.size + 1]) fun k hk => by simp at hk; subst hk; exact .inr (.inl (by omega)))
        clear hlg
        have HNL := Lib.hid hnl
        have HT : Hid (M.t (.mk m.kind m.s m.n A cap L m.pos) = m.t) := Lib.hid (by
          have h5 := HR.out
          rw [hjk, HKN.out, List.take_length] at h5
          simp only [M.t, M.ts_map]
          rw [h5, ← M.t_eq])
        clear hjk hlx hnl
        go_wp2
        (try simp only [Exit.inBlock, Exit.then])
        rw [set5_fold]
        refine bodyPost_ret (results_cell1 rfl _ _ _ _ _ rfl ((HB.out.ev HEW0.out).set5 _ _ _ _ _) Try.underlying45 rfl Try.sizeTree) rfl ?_
        refine ⟨.mk m.kind m.s m.n A cap L m.pos, by simp only [M.kids, M.kind, M.s, M.n, M.A, M.cap, M.pos]; rw [← HNL.out], HT.out, ?_, HEW.out.box (set5_but _ _ _ _ _ _ _) (by omega)⟩
        exact (HLXG.out.move (set5_but _ _ _ _ _ _ _) fun k hk => by cases hk).low (by omega)
end Go.Proofs.Ytgiofdmedhhobaa

namespace Go.Proofs.Ytgiofdmedhhobaa
open Go.RowKit
set_option linter.unusedVariables false

/-- What read gives for trees that are no deeper. -/
def ReadAt (N : Nat) : Prop := ∀ (m : M) (b0 : Nat) (w : World), m.dep ≤ N → Lies b0 [] w m → m.t.every fairB = true → m.t.size ≤ 16000 →
  Calls Try.prog 27 #[.agg #[.int .i64 m.kind, .string ⟨m.s.toArray⟩, .int .i64 m.n, .slice m.A m.kids.length m.cap, .int .i64 (m.pos : Int)]] w (RxOut (xRead m.t) w)

set_option maxRecDepth 100000 in
set_option maxHeartbeats 16000000 in
theorem ex_readApply (N : Nat) (ih : ReadAt N) (m : M) (b0 : Nat) (w : World) (hd : m.dep ≤ N + 1) (hL : Lies b0 [] w m) (hfair : m.t.every fairB = true) (hsz : m.t.size ≤ 16000) (hk1 : m.kind = 1) :
    Calls Try.prog 45 #[.agg #[.int .i64 m.kind, .string ⟨m.s.toArray⟩, .int .i64 m.n, .slice m.A m.kids.length m.cap, .int .i64 (m.pos : Int)]] w (RxOut (xRead m.t) w) := by
  have hkl : m.kids.length ≤ 16000 := by
    have h1 := T.size_eq m.t
    have h2 := sum_len m.t.kids
    rw [M.t_kids, List.length_map] at h2
    rw [M.t_kids] at h1
    omega
  have HSZ := Lib.hid hsz
  have hke := xRead_eq m
  rw [hk1] at hke
  have hms := hL.ms
  unfold ReadAt at ih
  have HIH := Lib.hid ih
  have HL := Lib.hid hL
  have HD := Lib.hid hd
  have HFAIR := Lib.hid hfair
  have hwr := fun why w1 => ex_wrong why m w1
  rw [hk1] at hwr ⊢
  have HWR := Lib.hid hwr
  clear hwr
  obtain ⟨R, hR⟩ : ∃ R, R = xRead m.t := ⟨_, rfl⟩
  rw [← hR] at hke ⊢
  obtain ⟨kn, hkn⟩ : ∃ kn, kn = m.kids.length := ⟨_, rfl⟩
  rw [← hkn] at hms hkl HWR ⊢
  have HKN := Lib.hid hkn
  generalize hmA : m.A = mA at *
  generalize hmc : m.cap = mcap at *
  have hcm := hms.max
  have hcl := hms.le
  have HMS := Lib.hid hms
  obtain ⟨w0, hw0, hE0, hX, hB, hlt⟩ := bx_two w (.int .i64 1) (.string ⟨m.s.toArray⟩) (.int .i64 m.n) (.slice mA kn mcap) (.int .i64 (m.pos : Int))
  have HE := Lib.hid hE0
  have HX := Lib.hid hX
  have HB := Lib.hid hB
  have HLT := Lib.hid hlt
  obtain ⟨⟨c0, c1, c2, c3, c4⟩, _⟩ := hX.five
  obtain ⟨⟨b0_, b1_, b2_, b3_⟩, g0_, g1_, g2_, g3_⟩ := hB.four
  simp only [beq_self_eq_true, if_true, show ((1 : Int) == 2) = false from rfl, show ((1 : Int) == 3) = false from rfl, show ((1 : Int) == 4) = false from rfl, Bool.false_eq_true, if_false] at hke
  clear ih hL hd hfair hkn hE0 hX hB hR hmA hmc hms hlt hsz hk1
  cases hk : m.kids with
  | nil =>
    obtain rfl : kn = 0 := by rw [HKN.out, hk]; rfl
    rw [hk] at hke
    have HK : Hid (R = xBad 12 m.pos) := Lib.hid hke
    clear hke
    go_enter Try.func45, Try.ntmps45
    go_wp2_with (first
      | ((with_reducible refine (HWR.out 12 _).mono ?_); rintro e w1 ⟨x, rfl, hxt, hxl, hE1⟩; have HXT := Lib.hid hxt; have B1 := HB.out.ev hE1; have FIN := Lib.hid (fun v0 v1 v2 v3 => rx_finish (g := w.heap.size + 1) (HE.out.trans hE1) (by omega) hxl HLT.out v0 v1 v2 v3); obtain ⟨⟨b0_, b1_, b2_, b3_⟩, g0_, g1_, g2_, g3_⟩ := B1.four; clear hxt hxl))
    (try simp only [Exit.inBlock, Exit.then])
    rw [set4_fold]
    refine bodyPost_ret (results_cell2' rfl _ _ _ _ _ rfl (B1.set4 _ _ _ _) Try.underlying39 rfl Try.sizeExpr) rfl ?_
    exact ⟨x, by rw [HK.out]; rfl, by rw [HXT.out, HK.out]; rfl, FIN.out _ _ _ _⟩
  | cons hm1 q =>
    have hknq : kn = q.length + 1 := by rw [HKN.out, hk]; rfl
    rw [hk] at hke
    obtain ⟨b, off, rfl, hb, h0, h1, _, _, _⟩ := HMS.out.cell (i := 0) (x := hm1) (by rw [hk]; rfl)
    simp only [Nat.zero_mul, Nat.add_zero] at h0 h1
    have HH : Hid (∀ w1, Ev w w1 → w1.cell? ⟨b, off, none⟩ = some (.int .i64 hm1.kind) ∧ w1.cell? ⟨b, off + 1, none⟩ = some (.string ⟨hm1.s.toArray⟩)) := Lib.hid fun w1 hE => ⟨(hE.cell (p := ⟨_, _, none⟩) hb).trans h0, (hE.cell (p := ⟨_, _, none⟩) hb).trans h1⟩
    clear h0 h1
    obtain ⟨h0, h1⟩ := HH.out _ HE.out
    have i0 : ¬ ((kn : Int) = 0) := by omega
    have i0' : ((kn : Int) == 0) = false := beq_eq_false_iff_ne.2 i0
    have i1 : (0 : Int) < (kn : Int) := by omega
    have HKQ := Lib.hid hknq
    have HKIDS := Lib.hid hk
    clear hknq hk
    by_cases hh : hm1.kind = 2
    · have hhb : (hm1.kind == 2) = true := beq_iff_eq.2 hh
      have hhn : (hm1.kind != 2) = false := by simp [hh]
      have HT := fun w1 => ex_operands hm1.s w1
      unfold bstr at HT
      obtain ⟨t, ht⟩ : ∃ t, t = xTakes hm1.s := ⟨_, rfl⟩
      simp only [hhb, Bool.true_and] at hke
      rw [← ht] at HT hke
      have HT := Lib.hid HT
      have HTT := Lib.hid ht
      have E3 := Ev.alloc w0 (.cells #[.int .i64 4, .string ⟨hm1.s.toArray⟩, .int .i64 0, .slice none 0 0] 39)
      have HI0 := Lib.hid (RxSt.init w0 hm1.s)
      have HE3 := Lib.hid E3
      have HBA := Lib.hid (HB.out.ev HE3.out)
      have HXA := Lib.hid (HX.out.ev HE3.out)
      obtain ⟨⟨d0, d1, d2, d3⟩, r0, r1, r2, r3⟩ := HI0.out.box.four
      obtain ⟨⟨cc0, cc1, cc2, cc3, cc4⟩, _⟩ := HXA.out.five
      obtain ⟨⟨bb0_, bb1_, bb2_, bb3_⟩, gg0_, gg1_, gg2_, gg3_⟩ := HBA.out.four
      obtain ⟨hh0, hh1⟩ := HH.out _ (HE.out.trans HE3.out)
      clear hh ht E3
      by_cases hz : t = 0
      · subst hz
        have HK : Hid (R = xBad 12 m.pos) := Lib.hid (by rw [hke]; rfl)
        clear hke
        go_enter Try.func45, Try.ntmps45
        go_wp2_with (first
          | ((with_reducible refine (HT.out _).mono ?_); rintro e w1 ⟨rfl, rfl⟩)
          | ((with_reducible refine (HWR.out 12 _).mono ?_); rintro e w1 ⟨x, rfl, hxt, hxl, hE1⟩; have HXT := Lib.hid hxt; have B1 := HBA.out.ev hE1; have FIN := Lib.hid (fun v0 v1 v2 v3 => rx_finish (g := w.heap.size + 1) ((HE.out.trans HE3.out).trans hE1) (by omega) hxl (Nat.lt_of_lt_of_le HLT.out HE3.out.size) v0 v1 v2 v3); obtain ⟨⟨b0_, b1_, b2_, b3_⟩, g0_, g1_, g2_, g3_⟩ := B1.four; clear hxt hxl))
        (try simp only [Exit.inBlock, Exit.then])
        rw [set4_fold]
        refine bodyPost_ret (results_cell2' rfl _ _ _ _ _ rfl (B1.set4 _ _ _ _) Try.underlying39 rfl Try.sizeExpr) rfl ?_
        exact ⟨x, by rw [HK.out]; rfl, by rw [HXT.out, HK.out]; rfl, FIN.out _ _ _ _⟩
      · have z1 : ¬ ((t : Int) = 0) := by omega
        have z2 : ((t : Int) == 0) = false := beq_eq_false_iff_ne.2 z1
        have htb : (t == 0) = false := beq_eq_false_iff_ne.2 hz
        rw [htb] at hke
        simp only [Bool.not_false, if_true] at hke
        by_cases hq : q.length = t
        · rw [if_pos (beq_iff_eq.2 hq)] at hke
          have HK := Lib.hid hke
          have HQ := Lib.hid hq
          have hkt : (t : Int) = (kn : Int) - 1 := by have := HKQ.out; omega
          have hktb : ((t : Int) == ((kn : Int) - 1)) = true := beq_iff_eq.2 hkt
          have hktn : ((t : Int) != ((kn : Int) - 1)) = false := by simp; exact hkt
          have HKT := Lib.hid hkt
          have m1 : ¬ (mcap = 1) := by have := HKQ.out; omega
          have m2 : (1 : Int) ≤ (kn : Int) := by omega
          have m3 : (1 : Int) ≤ (mcap : Int) := by omega
          have m4 : (kn : Int) ≤ (mcap : Int) := by omega
          clear hke hkt hq
          go_enter Try.func45, Try.ntmps45
          go_wp2_with (first
            | ((with_reducible refine (HT.out _).mono ?_); rintro e w1 ⟨rfl, rfl⟩))
          have HKT2 : Hid (kn = t + 1) := Lib.hid (by have := HKQ.out; have := HQ.out; omega)
          go_loopw [62] (fun iv wr => ∃ (A : Option Addr) (n cap : Nat) (L : List M), iv = .int .i64 (n : Int) ∧ n ≤ t ∧ Hid (RxSt w0 w0.heap.size hm1.s A n cap L wr) ∧ Hid (R = xReads hm1.s (L.map M.t) ((q.drop n).map fun x => xRead x.t))) (fun iv _ => t - (intOf iv).toNat)
          case atStart => exact ⟨none, 0, 0, [], rfl, Nat.zero_le _, HI0, HK⟩
          case round =>
            obtain ⟨A, n, cap, L, rfl, hj, HS, HR⟩ := hrel
            have HEW := Lib.hid (HE.out.trans HS.out.ev)
            have HEW0 := Lib.hid HS.out.ev
            obtain ⟨⟨c0, c1, c2, c3, c4⟩, _⟩ := (HX.out.ev HEW0.out).five
            obtain ⟨⟨b0_, b1_, b2_, b3_⟩, g0_, g1_, g2_, g3_⟩ := (HB.out.ev HEW0.out).four
            obtain ⟨⟨d0, d1, d2, d3⟩, r0, r1, r2, r3⟩ := HS.out.box.four
            have HLL := Lib.hid HS.out.len
            by_cases hlt : n < t
            · obtain ⟨x, hx⟩ : ∃ x, q[n]? = some x := ⟨_, List.getElem?_eq_getElem (by have := HQ.out; omega)⟩
              have hxm : m.kids[n + 1]? = some x := by rw [HKIDS.out]; simpa using hx
              obtain ⟨b', off', he, _, x0, x1, x2, x3, x4⟩ := Ms.cell (HMS.out.ev HEW.out) hxm
              injection he with he
              injection he with he1 he2 _
              subst he1
              subst he2
              have hadr : off + (n + 1) * 5 = off + 5 + n * 5 := by omega
              rw [hadr] at x0 x1 x2 x3 x4
              have hdj : q.drop n = x :: q.drop (n + 1) := by
                obtain ⟨hj', e⟩ := List.getElem?_eq_some_iff.1 hx
                rw [List.drop_eq_getElem_cons hj', e]
              have HR1 := HR.out
              rw [hdj, List.map_cons] at HR1
              unfold xReads at HR1
              have hxk := List.mem_of_getElem? hxm
              have hxf : x.t.every fairB = true := by
                have h5 := HFAIR.out
                rw [T.every_eq, Bool.and_eq_true] at h5
                exact List.all_eq_true.1 h5.2 x.t (by rw [M.t_kids]; exact List.mem_map.2 ⟨x, hxk, rfl⟩)
              have hxs : x.t.size ≤ 16000 := by
                have h5 := T.size_eq m.t
                rw [M.t_kids, List.map_map] at h5
                have h6 := mem_le_sum (List.mem_map.2 ⟨x, hxk, rfl⟩ : x.t.size ∈ m.kids.map (T.size ∘ M.t))
                have := HSZ.out
                omega
              have HI := fun w1 (hE : Ev w w1) => HIH.out x b0 w1 (by have := M.kid_dep hxk; have := HD.out; omega) ((HL.out.kid x hxk).ev hE) hxf hxs
              unfold RxOut at HI
              unfold M.kv at x3
              generalize xRead x.t = rx at *
              obtain ⟨rt, ry, rp⟩ := rx
              simp only at HR1 HI
              have HI := Lib.hid HI
              have hnb : n ≤ 20000 := by have := HKT2.out; omega
              have i2 : (n : Int) < (t : Int) := by omega
              have i3 : (0 : Int) ≤ (n : Int) := by omega
              have i4 : (n : Int) < (kn : Int) - 1 := by have := HKT2.out; omega
              have i5 : (n : Int) < ((kn - 1 : Nat) : Int) := by have := HKT2.out; omega
              have HAL := Lib.hid (Ev.alloc wr (.cells #[.int .i64 x.kind, .string ⟨x.s.toArray⟩, .int .i64 x.n, .slice x.A x.kids.length x.cap, .int .i64 (x.pos : Int)] 45))
              clear hx hxm hdj hxk hxf hxs hadr
              by_cases hw : ry = 0
              · subst hw
                rw [if_pos (by rfl)] at HR1
                have HR2 := Lib.hid HR1
                clear HR1
                go_wp2_with (first
                  | ((with_reducible refine (HI.out _ (HEW.out.trans HAL.out)).mono ?_); rintro e w1 ⟨x', rfl, hxt, hxl, hE1⟩; have HXT := Lib.hid hxt; have HXL := Lib.hid (hxl.low HAL.out.size); have E1 := Lib.hid (HAL.out.trans hE1); obtain ⟨⟨d0, d1, d2, d3⟩, r0, r1, r2, r3⟩ := (HS.out.box.ev (E1.out.trans (Ev.alloc w1 (.cells #[.int .i64 x'.kind, .string ⟨x'.s.toArray⟩, .int .i64 x'.n, .slice x'.A x'.kids.length x'.cap] 39)))).four; clear hxt hxl)
                  | ((show wpList _ _ _ (⟨some 81, _, _, _, _, _⟩ :: _) _ _); refine wpList_append_ow (o := ⟨some 81, _, _, _, _, _⟩) rfl 37 (.tmp 78) (.tmp 80) rfl encE Try.underlying37 Try.infoExpr rfl rfl (HS.out.own.ev (E1.out.trans ((Ev.alloc w1 _).trans (Ev.alloc _ _)))) (some ⟨w1.heap.size + 1, 0, none⟩) 1 1 [x'] rfl (by have := Sl.one (et := 39) encE (w1.alloc (.cells #[.int .i64 x'.kind, .string ⟨x'.s.toArray⟩, .int .i64 x'.n, .slice x'.A x'.kids.length x'.cap] 39)) x' #[.int .i64 x'.kind, .string ⟨x'.s.toArray⟩, .int .i64 x'.n, .slice x'.A x'.kids.length x'.cap] rfl; simpa using this) (by rw [HLL.out]; simp; omega) (by rw [HLL.out]; simp; omega) (by have h7 := HS.out.box.lt; have h8 := (E1.out.trans ((Ev.alloc w1 (.cells #[.int .i64 x'.kind, .string ⟨x'.s.toArray⟩, .int .i64 x'.n, .slice x'.A x'.kids.length x'.cap] 39)).trans (Ev.alloc _ (.cells #[.int .i64 x'.kind, .string ⟨x'.s.toArray⟩, .int .i64 x'.n, .slice x'.A x'.kids.length x'.cap] 39)))).size; omega) ?_; intro v2 w2 hA2; obtain ⟨⟨d0, d1, d2, d3⟩, r0, r1, r2, r3⟩ := (HS.out.after (E1.out.trans ((Ev.alloc w1 _).trans (Ev.alloc _ _))) hA2).four; obtain ⟨A2, cap2, rfl, ST2⟩ := HS.out.next (E1.out.trans ((Ev.alloc w1 _).trans (Ev.alloc _ _))) (HXL.out.ev ((Ev.alloc w1 _).trans (Ev.alloc _ _))) hA2))
                go_roundw
                case rel => exact ⟨A2, n + 1, cap2, L ++ [x'], by go_num, by omega, Lib.hid ST2, Lib.hid (by rw [HR2.out, List.map_append, List.map_cons, List.map_nil, HXT.out])⟩
                case measure => simp [intOf]; omega
              · have hwb : (ry == 0) = false := beq_eq_false_iff_ne.2 hw
                have hwn : (ry != 0) = true := by simp [hw]
                rw [hwb] at HR1
                simp only [Bool.false_eq_true, if_false] at HR1
                have HR2 := Lib.hid HR1
                clear HR1
                go_wp2_with (first
                  | ((with_reducible refine (HI.out _ (HEW.out.trans HAL.out)).mono ?_); rintro e w1 ⟨x', rfl, hxt, hxl, hE1⟩; have E1 := HEW.out.trans (HAL.out.trans (hE1.trans (Ev.alloc w1 (.cells #[.int .i64 x'.kind, .string ⟨x'.s.toArray⟩, .int .i64 x'.n, .slice x'.A x'.kids.length x'.cap] 39)))); have B1 := HB.out.ev (HEW0.out.trans (HAL.out.trans (hE1.trans (Ev.alloc w1 (.cells #[.int .i64 x'.kind, .string ⟨x'.s.toArray⟩, .int .i64 x'.n, .slice x'.A x'.kids.length x'.cap] 39))))); obtain ⟨⟨b0_, b1_, b2_, b3_⟩, g0_, g1_, g2_, g3_⟩ := B1.four))
                (try simp only [Exit.inBlock, Exit.then])
                rw [set4_fold]
                refine bodyPost_ret (results_cell2' rfl _ _ _ _ _ rfl (B1.set4 _ _ _ _) Try.underlying39 rfl Try.sizeExpr) rfl ?_
                exact ⟨mzero, by rw [HR2.out]; rfl, by rw [HR2.out]; rfl, Lx.leaf, E1.box (set4_but _ _ _ _ _ _) (by omega)⟩
            · have hjk : n = t := by omega
              have i2 : ¬ ((n : Int) < (t : Int)) := by omega
              have i4 : ¬ ((n : Int) < (kn : Int) - 1) := by have := HKT2.out; omega
              have i5 : ¬ ((n : Int) < ((kn - 1 : Nat) : Int)) := by have := HKT2.out; omega
              have HR1 := HR.out
              rw [List.drop_of_length_le (by have := HQ.out; omega)] at HR1
              simp only [List.map_nil, xReads] at HR1
              have HR2 := Lib.hid HR1
              obtain ⟨hlx, hnl⟩ := HS.out.done (b0 := w.heap.size) HE.out.size
              have hlg := (HS.out.done (b0 := w0.heap.size) (Nat.le_refl _)).1
              have HLXG := Lib.hid (hlg.less (K' := [w.heap.size + 1]) fun k hk => by simp at hk; subst hk; exact .inr (.inl HLT.out))
              clear hlg
              have HNL := Lib.hid hnl
              clear HR1 hjk hlx hnl
              go_wp2
              (try simp only [Exit.inBlock, Exit.then])
              rw [set4_fold]
              refine bodyPost_ret (results_cell2' rfl _ _ _ _ _ rfl ((HB.out.ev HEW0.out).set4 _ _ _ _) Try.underlying39 rfl Try.sizeExpr) rfl ?_
              refine ⟨.mk 4 hm1.s 0 A cap L 0, by rw [HR2.out]; simp only [M.kids]; rw [← HNL.out]; rfl, by rw [HR2.out]; simp [M.t, M.ts_map], ?_, HEW.out.box (set4_but _ _ _ _ _ _) (by omega)⟩
              exact (HLXG.out.move (set4_but _ _ _ _ _ _) fun k hk => by cases hk).low (by have := HLT.out; omega)
        · rw [if_neg (by simp; exact hq)] at hke
          have HK : Hid (R = xBad 23 m.pos) := Lib.hid hke
          have hkt : ¬ ((t : Int) = (kn : Int) - 1) := by have := HKQ.out; omega
          have hktb : ((t : Int) == ((kn : Int) - 1)) = false := beq_eq_false_iff_ne.2 hkt
          have hktn : ((t : Int) != ((kn : Int) - 1)) = true := by simp; exact hkt
          clear hke
          go_enter Try.func45, Try.ntmps45
          go_wp2_with (first
            | ((with_reducible refine (HT.out _).mono ?_); rintro e w1 ⟨rfl, rfl⟩)
            | ((with_reducible refine (HWR.out 23 _).mono ?_); rintro e w1 ⟨x, rfl, hxt, hxl, hE1⟩; have HXT := Lib.hid hxt; have B1 := HBA.out.ev hE1; have FIN := Lib.hid (fun v0 v1 v2 v3 => rx_finish (g := w.heap.size + 1) ((HE.out.trans HE3.out).trans hE1) (by omega) hxl (Nat.lt_of_lt_of_le HLT.out HE3.out.size) v0 v1 v2 v3); obtain ⟨⟨b0_, b1_, b2_, b3_⟩, g0_, g1_, g2_, g3_⟩ := B1.four; clear hxt hxl))
          (try simp only [Exit.inBlock, Exit.then])
          rw [set4_fold]
          refine bodyPost_ret (results_cell2' rfl _ _ _ _ _ rfl (B1.set4 _ _ _ _) Try.underlying39 rfl Try.sizeExpr) rfl ?_
          exact ⟨x, by rw [HK.out]; rfl, by rw [HXT.out, HK.out]; rfl, FIN.out _ _ _ _⟩
    · have hhb : (hm1.kind == 2) = false := beq_eq_false_iff_ne.2 hh
      have hhn : (hm1.kind != 2) = true := by simp [hh]
      simp only [hhb, Bool.false_and, Bool.false_eq_true, if_false] at hke
      have HK : Hid (R = xBad 12 m.pos) := Lib.hid hke
      clear hke
      go_enter Try.func45, Try.ntmps45
      go_wp2_with (first
        | ((with_reducible refine (HWR.out 12 _).mono ?_); rintro e w1 ⟨x, rfl, hxt, hxl, hE1⟩; have HXT := Lib.hid hxt; have B1 := HB.out.ev hE1; have FIN := Lib.hid (fun v0 v1 v2 v3 => rx_finish (g := w.heap.size + 1) (HE.out.trans hE1) (by omega) hxl HLT.out v0 v1 v2 v3); obtain ⟨⟨b0_, b1_, b2_, b3_⟩, g0_, g1_, g2_, g3_⟩ := B1.four; clear hxt hxl))
      (try simp only [Exit.inBlock, Exit.then])
      rw [set4_fold]
      refine bodyPost_ret (results_cell2' rfl _ _ _ _ _ rfl (B1.set4 _ _ _ _) Try.underlying39 rfl Try.sizeExpr) rfl ?_
      exact ⟨x, by rw [HK.out]; rfl, by rw [HXT.out, HK.out]; rfl, FIN.out _ _ _ _⟩

set_option maxRecDepth 100000 in
set_option maxHeartbeats 8000000 in
theorem ex_read (N : Nat) : ReadAt N := by
  induction N with
  | zero =>
    intro m b0 w hd
    rw [M.dep_eq] at hd
    omega
  | succ N ih =>
    intro m b0 w hd hL hfair hsz
    have hke := xRead_eq m
    have hsl : m.s.length ≤ 100000 := by
      rw [T.every_eq, Bool.and_eq_true] at hfair
      have := hfair.1
      unfold fairB at this
      simp only [Bool.and_eq_true, decide_eq_true_iff, M.t_s] at this
      exact this.2
    have HWR := Lib.hid (fun why w1 => ex_wrong why m w1)
    have HAP := Lib.hid (fun w1 (hE : Ev w w1) (hk : m.kind = 1) => ex_readApply N ih m b0 w1 hd (hL.ev hE) hfair hsz hk)
    have hc1 := hL.ms.le
    have hc2 := hL.ms.max
    obtain ⟨w0, hw0, hE0, hX, hB, hlt⟩ := bx_two w (.int .i64 m.kind) (.string ⟨m.s.toArray⟩) (.int .i64 m.n) (.slice m.A m.kids.length m.cap) (.int .i64 (m.pos : Int))
    have HE := Lib.hid hE0
    have HB := Lib.hid hB
    have HX := Lib.hid hX
    have HLT := Lib.hid hlt
    obtain ⟨⟨c0, c1, c2, c3, c4⟩, _⟩ := hX.five
    obtain ⟨⟨b0_, b1_, b2_, b3_⟩, g0_, g1_, g2_, g3_⟩ := hB.four
    obtain ⟨R, hR⟩ : ∃ R, R = xRead m.t := ⟨_, rfl⟩
    rw [← hR] at hke HAP ⊢
    clear ih hL hd hfair hE0 hX hB hR hlt hsz
    by_cases k1 : m.kind = 1
    · have HAP2 := Lib.hid (fun w1 hE => HAP.out w1 hE k1)
      have k1b : (m.kind == 1) = true := beq_iff_eq.2 k1
      clear HAP hke k1
      go_enter Try.func27, Try.ntmps27
      go_wp2_with (first
        | ((with_reducible refine (HAP2.out _ HE.out).mono ?_); rintro e w1 ⟨x, rfl, hxt, hxl, hE1⟩; have HXT := Lib.hid hxt; have B1 := HB.out.ev hE1; have FIN := Lib.hid (fun v0 v1 v2 v3 => rx_finish (g := w.heap.size + 1) (HE.out.trans hE1) (by omega) hxl HLT.out v0 v1 v2 v3); obtain ⟨⟨b0_, b1_, b2_, b3_⟩, g0_, g1_, g2_, g3_⟩ := B1.four; clear hxt hxl))
      (try simp only [Exit.inBlock, Exit.then])
      rw [set4_fold]
      refine bodyPost_ret (results_cell2' rfl _ _ _ _ _ rfl (B1.set4 _ _ _ _) Try.underlying39 rfl Try.sizeExpr) rfl ?_
      exact ⟨x, rfl, HXT.out, FIN.out _ _ _ _⟩
    have k1' : (m.kind == 1) = false := beq_eq_false_iff_ne.2 k1
    rw [k1'] at hke
    by_cases k2 : m.kind = 2
    · have k2b : (m.kind == 2) = true := beq_iff_eq.2 k2
      rw [k2b] at hke
      simp only [if_true] at hke
      have HN := fun w1 => row_name (bstr m.s) w1
      unfold bstr at HN
      rw [show xName m.s = nameV ⟨m.s.toArray⟩ from rfl] at hke
      clear k1 k2
      cases hn : nameV ⟨m.s.toArray⟩ with
      | false =>
        rw [hn] at hke HN
        simp only [Bool.false_eq_true, if_false] at hke
        have HK := Lib.hid hke
        have HN := Lib.hid HN
        clear hke
        go_enter Try.func27, Try.ntmps27
        go_wp2_with (first
          | ((with_reducible refine (HN.out _).mono ?_); rintro e wn ⟨rfl, hEn⟩; have HEN := Lib.hid hEn; obtain ⟨⟨c0, c1, c2, c3, c4⟩, _⟩ := (HX.out.ev hEn).five)
          | ((with_reducible refine (HWR.out 20 _).mono ?_); rintro e w1 ⟨x, rfl, hxt, hxl, hE1⟩; have HXT := Lib.hid hxt; have B1 := HB.out.ev (HEN.out.trans hE1); have FIN := Lib.hid (fun v0 v1 v2 v3 => rx_finish (g := w.heap.size + 1) ((HE.out.trans HEN.out).trans hE1) (by omega) hxl (Nat.lt_of_lt_of_le HLT.out HEN.out.size) v0 v1 v2 v3); obtain ⟨⟨b0_, b1_, b2_, b3_⟩, g0_, g1_, g2_, g3_⟩ := B1.four; clear hxt hxl))
        (try simp only [Exit.inBlock, Exit.then])
        rw [set4_fold]
        refine bodyPost_ret (results_cell2' rfl _ _ _ _ _ rfl (B1.set4 _ _ _ _) Try.underlying39 rfl Try.sizeExpr) rfl ?_
        exact ⟨x, by rw [HK.out]; rfl, by rw [HXT.out, HK.out]; rfl, FIN.out _ _ _ _⟩
      | true =>
        rw [hn] at hke HN
        simp only [if_true] at hke
        have HK := Lib.hid hke
        have HN := Lib.hid HN
        clear hke
        go_enter Try.func27, Try.ntmps27
        go_wp2_with (first | ((with_reducible refine (HN.out _).mono ?_); rintro e w1 ⟨rfl, hE1⟩; have E1 := HE.out.trans hE1; have B1 := HB.out.ev hE1; obtain ⟨⟨c0, c1, c2, c3, c4⟩, _⟩ := (HX.out.ev hE1).five; obtain ⟨⟨b0_, b1_, b2_, b3_⟩, g0_, g1_, g2_, g3_⟩ := B1.four))
        (try simp only [Exit.inBlock, Exit.then])
        rw [set4_fold]
        refine bodyPost_ret (results_cell2' rfl _ _ _ _ _ rfl (B1.set4 _ _ _ _) Try.underlying39 rfl Try.sizeExpr) rfl ?_
        exact ⟨(.mk 1 m.s 0 none 0 [] 0), by rw [HK.out]; rfl, by rw [HK.out]; simp [M.t, M.ts], Lx.leaf, E1.box (set4_but _ _ _ _ _ _) (by omega)⟩
    have k2' : (m.kind == 2) = false := beq_eq_false_iff_ne.2 k2
    rw [k2'] at hke
    by_cases k3 : m.kind = 3
    · have k3b : (m.kind == 3) = true := beq_iff_eq.2 k3
      rw [k3b] at hke
      have HK : Hid (R = (.mk 2 [] m.n [] 0, 0, 0)) := Lib.hid hke
      clear hke k1 k2 k3
      go_enter Try.func27, Try.ntmps27
      go_wp2
      (try simp only [Exit.inBlock, Exit.then])
      rw [set4_fold]
      refine bodyPost_ret (results_cell2' rfl _ _ _ _ _ rfl (HB.out.set4 _ _ _ _) Try.underlying39 rfl Try.sizeExpr) rfl ?_
      exact ⟨(.mk 2 [] m.n none 0 [] 0), by rw [HK.out]; rfl, by rw [HK.out]; simp [M.t, M.ts], Lx.leaf, HE.out.box (set4_but _ _ _ _ _ _) (by omega)⟩
    have k3' : (m.kind == 3) = false := beq_eq_false_iff_ne.2 k3
    rw [k3'] at hke
    by_cases k4 : m.kind = 4
    · have k4b : (m.kind == 4) = true := beq_iff_eq.2 k4
      rw [k4b] at hke
      have HK : Hid (R = (.mk 3 m.s 0 [] 0, 0, 0)) := Lib.hid hke
      clear hke k1 k2 k3 k4
      go_enter Try.func27, Try.ntmps27
      go_wp2
      (try simp only [Exit.inBlock, Exit.then])
      rw [set4_fold]
      refine bodyPost_ret (results_cell2' rfl _ _ _ _ _ rfl (HB.out.set4 _ _ _ _) Try.underlying39 rfl Try.sizeExpr) rfl ?_
      exact ⟨(.mk 3 m.s 0 none 0 [] 0), by rw [HK.out]; rfl, by rw [HK.out]; simp [M.t, M.ts], Lx.leaf, HE.out.box (set4_but _ _ _ _ _ _) (by omega)⟩
    · have k4' : (m.kind == 4) = false := beq_eq_false_iff_ne.2 k4
      rw [k4'] at hke
      have HK : Hid (R = xBad 12 m.pos) := Lib.hid hke
      clear hke k1 k2 k3 k4
      go_enter Try.func27, Try.ntmps27
      go_wp2_with (first
        | ((with_reducible refine (HWR.out 12 _).mono ?_); rintro e w1 ⟨x, rfl, hxt, hxl, hE1⟩; have HXT := Lib.hid hxt; have B1 := HB.out.ev hE1; have FIN := Lib.hid (fun v0 v1 v2 v3 => rx_finish (g := w.heap.size + 1) (HE.out.trans hE1) (by omega) hxl HLT.out v0 v1 v2 v3); obtain ⟨⟨b0_, b1_, b2_, b3_⟩, g0_, g1_, g2_, g3_⟩ := B1.four; clear hxt hxl))
      (try simp only [Exit.inBlock, Exit.then])
      rw [set4_fold]
      refine bodyPost_ret (results_cell2' rfl _ _ _ _ _ rfl (B1.set4 _ _ _ _) Try.underlying39 rfl Try.sizeExpr) rfl ?_
      exact ⟨x, by rw [HK.out]; rfl, by rw [HXT.out, HK.out]; rfl, FIN.out _ _ _ _⟩

set_option maxRecDepth 100000 in
set_option maxHeartbeats 4000000 in
theorem ex_Read (m : M) (b0 : Nat) (w : World) (hL : Lies b0 [] w m) (hfair : m.t.every fairB = true) (hsz : m.t.size ≤ 16000) :
    Calls Try.prog 8 #[.agg #[.int .i64 m.kind, .string ⟨m.s.toArray⟩, .int .i64 m.n, .slice m.A m.kids.length m.cap, .int .i64 (m.pos : Int)]] w (RxOut (xRead m.t) w) := by
  have HP := Lib.hid (fun w1 (hE : Ev w w1) => ex_partsT m b0 w1 (hL.ev hE) hsz)
  have HR := Lib.hid (fun w1 (hE : Ev w w1) => ex_read m.dep m b0 w1 (Nat.le_refl _) (hL.ev hE) hfair hsz)
  have hc1 := hL.ms.le
  have hc2 := hL.ms.max
  obtain ⟨w0, hw0, hE0, hX, hB, hlt⟩ := bx_two w (.int .i64 m.kind) (.string ⟨m.s.toArray⟩) (.int .i64 m.n) (.slice m.A m.kids.length m.cap) (.int .i64 (m.pos : Int))
  have HE := Lib.hid hE0
  have HB := Lib.hid hB
  have HX := Lib.hid hX
  have HLT := Lib.hid hlt
  obtain ⟨⟨c0, c1, c2, c3, c4⟩, _⟩ := hX.five
  obtain ⟨⟨b0_, b1_, b2_, b3_⟩, g0_, g1_, g2_, g3_⟩ := hB.four
  generalize xRead m.t = R at *
  clear hL hfair hE0 hX hB hlt hsz
  go_enter Try.func8, Try.ntmps8
  go_wp2_with (first
    | ((with_reducible refine (HP.out _ HE.out).mono ?_); rintro e wn ⟨A, n, cap, rfl, hEn⟩; have HEN := Lib.hid hEn; obtain ⟨⟨c0, c1, c2, c3, c4⟩, _⟩ := (HX.out.ev hEn).five)
    | ((with_reducible refine (HR.out _ (HE.out.trans HEN.out)).mono ?_); rintro e w1 ⟨x, rfl, hxt, hxl, hE1⟩; have HXT := Lib.hid hxt; have B1 := HB.out.ev (HEN.out.trans hE1); have FIN := Lib.hid (fun v0 v1 v2 v3 => rx_finish (g := w.heap.size + 1) ((HE.out.trans HEN.out).trans hE1) (by omega) hxl (Nat.lt_of_lt_of_le HLT.out HEN.out.size) v0 v1 v2 v3); obtain ⟨⟨b0_, b1_, b2_, b3_⟩, g0_, g1_, g2_, g3_⟩ := B1.four; clear hxt hxl))
  (try simp only [Exit.inBlock, Exit.then])
  rw [set4_fold]
  refine bodyPost_ret (results_cell2' rfl _ _ _ _ _ rfl (B1.set4 _ _ _ _) Try.underlying39 rfl Try.sizeExpr) rfl ?_
  exact ⟨x, rfl, HXT.out, FIN.out _ _ _ _⟩
end Go.Proofs.Ytgiofdmedhhobaa

namespace Go.Proofs.Ytgiofdmedhhobaa
open Go.RowKit
set_option linter.unusedVariables false

theorem run_load_box2 {P : Program} {ρ : Operand → Value} {o : Oper} {x : Operand} {T : TypeId} {g : Nat} {cs : Array Value} {w : World} {d : TypeDesc} (ho : o.op = .load T x) (hx : ρ x = .pointer (some ⟨g, 0, none⟩)) (hB : Bx T g cs w)
    (hu : P.underlying T = some d) (hd : (match d with | .struct _ | .array _ _ => true | _ => false) = true) (hi : (P.info? T).map (·.size) = some cs.size) :
    (execOp ρ o).run P w = .ok (.value (.agg cs)) w := by
  have h := run_loadVar_row w g T T _ (0, 0) _ hB.blk hu hd hi
  unfold execOp
  rw [ho]
  simp only [hx, Instr.loadAt, Instr.sureAddr, Sem.run_bind, Sem.run_pure, Result.andThen_ok, h]
/-- A store into a Value's box that is no older than b. -/
def JV (b : Nat) (w w' : World) : Prop := ∃ (g : Nat) (v0 v1 v2 : Value), b ≤ g ∧ (∃ c0 c1 c2, Bx 25 g #[c0, c1, c2] w) ∧ w' = set3 g v0 v1 v2 w
/-- The columns of t, in new memory. -/
def ColsF (v : Value) (w : World) : Prop := ∃ g cs, v = .slice (some ⟨g, 0, none⟩) 3 3 ∧ w.heap[g]? = some (.cells cs 64 (0, 0)) ∧ Cs w (some ⟨g, 0, none⟩) 3 3 tcols
theorem ColsF.but {K : List Nat} {v : Value} {w w' : World} (h : ColsF v w) (hb : But K w w') (hn : ∀ g cs, w.heap[g]? = some (.cells cs 64 (0, 0)) → g ∉ K) : ColsF v w' := by
  obtain ⟨g, cs, e, hg, hC⟩ := h
  exact ⟨g, cs, e, hb.heap hg (hn g cs hg), hC.but hb fun ad ea => by cases ea; exact hn g cs hg⟩
theorem ColsF.mono : Mono ColsF := fun v w w' hE h => h.but (But.of_ev (K := []) hE) (by simp)
theorem ColsF.jump (b : Nat) : ∀ v w w', JV b w w' → ColsF v w → ColsF v w' := by
  rintro v w w' ⟨g, v0, v1, v2, _, ⟨c0, c1, c2, hB⟩, rfl⟩ h
  refine h.but (set3_but g v0 v1 v2 w) fun g' cs hg hm => ?_
  simp at hm
  subst hm
  have := hB.blk
  rw [hg] at this
  simp at this
theorem keep_tF (w : World) : Calls Try.prog 4 #[] w fun e w' => ∃ v, e = .returned v ∧ Ev w w' ∧ ColsF v w' := by
  go_enter Try.func4, Try.ntmps4
  go_wp2
  go_ret
  exact ⟨_, rfl, Ev.alloc _ _, w.heap.size, _, rfl, heap_alloc_new w _, Cs.made tcols 3 rfl (by decide) w _ rfl⟩
/-- A box for a Value that is no older than b. -/
def NewV (b : Nat) (v : Value) (w : World) : Prop := ∃ g c0 c1 c2, v = .pointer (some ⟨g, 0, none⟩) ∧ Bx 25 g #[c0, c1, c2] w ∧ b ≤ g
theorem NewV.mono (b : Nat) : Mono (NewV b) := fun v w w' hE h => by
  obtain ⟨g, c0, c1, c2, e, hB, hb⟩ := h
  exact ⟨g, c0, c1, c2, e, hB.ev hE, hb⟩
theorem NewV.jump (b b' : Nat) : ∀ v w w', JV b' w w' → NewV b v w → NewV b v w' := by
  rintro v w w' ⟨g, v0, v1, v2, _, ⟨c0, c1, c2, hB⟩, rfl⟩ ⟨g', d0, d1, d2, e, hB', hb⟩
  by_cases hg : g' = g
  · subst hg
    exact ⟨g', v0, v1, v2, e, hB'.set3 _ _ _, hb⟩
  · exact ⟨g', d0, d1, d2, e, hB'.but (set3_but g v0 v1 v2 w) (by simp; exact hg), hb⟩
/-- The box behind the store. -/
def BxV (b : Nat) (k n : Int) (s : ByteArray) (v : Value) (w : World) : Prop := ∃ g, v = .pointer (some ⟨g, 0, none⟩) ∧ Bx 25 g #[.int .i64 k, .int .i64 n, .string s] w ∧ b ≤ g
theorem BxV.mono (b : Nat) (k n : Int) (s : ByteArray) : Mono (BxV b k n s) := fun v w w' hE h => by
  obtain ⟨g, e, hB, hb⟩ := h
  exact ⟨g, e, hB.ev hE, hb⟩
theorem run_alloc_val {ρ : Operand → Value} {o : Oper} {w : World} (ho : o.op = .alloc 25) :
    (execOp ρ o).run Try.prog w = .ok (.value (.pointer (some ⟨w.heap.size, 0, none⟩))) (w.alloc (.cells #[.int .i64 0, .int .i64 0, .string ⟨#[]⟩] 25)) := by
  unfold execOp
  rw [ho]
  simp [go_sem]
theorem NewV.new (b : Nat) (w : World) (h : b ≤ w.heap.size) : NewV b (.pointer (some ⟨w.heap.size, 0, none⟩)) (w.alloc (.cells #[.int .i64 0, .int .i64 0, .string ⟨#[]⟩] 25)) := ⟨_, _, _, _, rfl, vbox w, h⟩
theorem fair_str {s : ByteArray} (h : s.size ≤ 100000) : fairV (2, 0, s) := ⟨(show i64R 0 by decide), h⟩
/-- What stays: an expression in its box, and a row. -/
structure TxS2 (w0 : World) (gx : Nat) (x : M) (A : Option Addr) (n cap : Nat) (r : List V) (w : World) : Prop where
  bx : Bx 39 gx #[.int .i64 x.kind, .string ⟨x.s.toArray⟩, .int .i64 x.n, .slice x.A x.kids.length x.cap] w
  lx : Lx 0 [] w x
  v : Vs w A n cap r
  all : Ev w0 w
theorem TxS2.ev {w0 : World} {gx : Nat} {x : M} {A : Option Addr} {n cap : Nat} {r : List V} {w w' : World} (h : TxS2 w0 gx x A n cap r w) (hE : Ev w w') : TxS2 w0 gx x A n cap r w' := ⟨h.bx.ev hE, h.lx.ev hE, h.v.ev hE, h.all.trans hE⟩
theorem keep_exprs_one (x y : M) (w1 : World) (A B : Option Addr) (hA : Es w1 A 1 1 [x]) (hB : Es w1 B 1 1 [y]) (hx : Lx 0 [] w1 x) (hy : Lx 0 [] w1 y) (he : x.t = y.t) :
    Calls Try.prog 11 #[.slice A 1 1, .slice B 1 1] w1 fun e w' => e = .returned (.bool true) ∧ Ev w1 w' :=
  keep_exprs _ [x] [y] 0 0 w1 A 1 1 B 1 (Nat.le_refl _) (by simp [he]) hA hB (fun z hz => by simp at hz; subst hz; exact hx) (fun z hz => by simp at hz; subst hz; exact hy)
theorem Lx.low0 {b : Nat} {K : List Nat} {w : World} {m : M} (h : Lx b K w m) : Lx 0 K w m := h.low (Nat.zero_le _)
end Go.Proofs.Ytgiofdmedhhobaa
