/-
  Texts that belong together: The walk of ExprTexts.
-/
import Derived.Deep.DeepCutAuto
import Derived.Test.YtiiogjpgeginlaaZ19ExprTexts
import Derived.Test.YtiiogjpgeginlaaZ5ExprTexts
namespace Go.Proofs.Ytiiogjpgeginlaa
open Go.RowKit
set_option linter.unusedVariables false

def tx2 : List C := [(⟨#[120]⟩, 2), (⟨#[121]⟩, 2)]
def txr (s t : ByteArray) : List V := [(2, 0, s), (2, 0, t)]
theorem txr_fits {s t : ByteArray} (hs : s.size ≤ 40) (ht : t.size ≤ 40) : fitsL tx2 (txr s t) = true := by simp [fitsL, tx2, txr, rightV, hs, ht]
theorem txr_fair {s t : ByteArray} (hs : s.size ≤ 40) (ht : t.size ≤ 40) : ∀ x ∈ txr s t, fairV x := fun x hx => by
  simp [txr] at hx
  rcases hx with rfl | rfl
  · exact ⟨(show i64R 0 by decide), by show s.size ≤ 100000; omega⟩
  · exact ⟨(show i64R 0 by decide), by show t.size ≤ 100000; omega⟩
theorem value_of {cols : List C} {r : List V} {e : T} {R : VRes} (hty : (xType cols e).2 = 0) (hf : fitsL cols r = true) (hR : xEval cols r e = R) : xValue cols r e = R := by
  unfold xValue
  rw [hty, hf, ← hR]
  rfl
theorem less_txt {s t : ByteArray} (hs : s.size ≤ 40) (ht : t.size ≤ 40) : lessV 2 0 s 2 0 t = Op.bytesLess s.toList t.toList := by
  unfold lessV rightV
  simp [hs, ht]
theorem same_txt {s t : ByteArray} (hs : s.size ≤ 40) (ht : t.size ≤ 40) : (!lessV 2 0 s 2 0 t && !lessV 2 0 t 2 0 s) = (s.toList == t.toList) := by
  have h1 : rightV 2 0 s = true := by simp [rightV, hs]
  have h2 : rightV 2 0 t = true := by simp [rightV, ht]
  by_cases h : s = t
  · subst h
    have := lessVV_self (2, 0, s)
    simp only [lessVV] at this
    rw [this]
    simp
  · have hne : (s.toList == t.toList) = false := beq_eq_false_iff_ne.2 fun e => h (toList_inj e)
    have := lessVV_tri (x := (2, 0, s)) (y := (2, 0, t)) h1 h2 (fun e => h (by injection e with _ e; injection e))
    simp only [lessVV] at this
    rw [hne, this]
    cases lessV 2 0 t 2 0 s <;> rfl
abbrev txE (op a b : By) : T := .mk 4 op 0 [.mk 1 a 0 [] 0, .mk 1 b 0 [] 0] 0
theorem value_cat (s t : ByteArray) (hs : s.size ≤ 40) (ht : t.size ≤ 40) (h : s.size + t.size ≤ 40) : xValue tx2 (txr s t) (txE bCat [120] [121]) = ((2, 0, s ++ t), 0) := by
  refine value_of (by kernel_rfl) (txr_fits hs ht) ?_
  have : xEval tx2 (txr s t) (txE bCat [120] [121]) = if s.size + t.size ≤ 40 then (vStr (s ++ t), 0) else (v0, 3) := by kernel_rfl
  rw [this, if_pos h]
  rfl
theorem value_cat_not (s t : ByteArray) (hs : s.size ≤ 40) (ht : t.size ≤ 40) (h : ¬ s.size + t.size ≤ 40) : xValue tx2 (txr s t) (txE bCat [120] [121]) = ((0, 0, ⟨#[]⟩), 3) := by
  refine value_of (by kernel_rfl) (txr_fits hs ht) ?_
  have : xEval tx2 (txr s t) (txE bCat [120] [121]) = if s.size + t.size ≤ 40 then (vStr (s ++ t), 0) else (v0, 3) := by kernel_rfl
  rw [this, if_neg h]
  rfl
theorem value_len (s t : ByteArray) (hs : s.size ≤ 40) (ht : t.size ≤ 40) : xValue tx2 (txr s t) (.mk 4 bLen 0 [.mk 1 [120] 0 [] 0] 0) = ((1, (s.size : Int), ⟨#[]⟩), 0) := by
  refine value_of (by kernel_rfl) (txr_fits hs ht) ?_
  kernel_rfl
theorem value_eqx (s t : ByteArray) (hs : s.size ≤ 40) (ht : t.size ≤ 40) (ne : Int) (hn : ne = if (s.toList == t.toList) = true then 1 else 0) : xValue tx2 (txr s t) (txE bEq [120] [121]) = ((1, ne, ⟨#[]⟩), 0) := by
  refine value_of (by kernel_rfl) (txr_fits hs ht) ?_
  have : xEval tx2 (txr s t) (txE bEq [120] [121]) = xTruth (!lessV 2 0 s 2 0 t && !lessV 2 0 t 2 0 s) := by kernel_rfl
  rw [this, same_txt hs ht, hn]
  rfl
theorem value_ltx (s t : ByteArray) (hs : s.size ≤ 40) (ht : t.size ≤ 40) (nl : Int) (hn : nl = if Op.bytesLess s.toList t.toList = true then 1 else 0) : xValue tx2 (txr s t) (txE bLt [120] [121]) = ((1, nl, ⟨#[]⟩), 0) := by
  refine value_of (by kernel_rfl) (txr_fits hs ht) ?_
  have : xEval tx2 (txr s t) (txE bLt [120] [121]) = xTruth (lessV 2 0 s 2 0 t) := by kernel_rfl
  rw [this, less_txt hs ht, hn]
  rfl
/-- What stays through ExprTexts: the columns and the row. -/
structure TxS (w0 : World) (g1 g2 : Nat) (s t : ByteArray) (w : World) : Prop where
  c : Cs w (some ⟨g1, 0, none⟩) 2 2 tx2
  v : Vs w (some ⟨g2, 0, none⟩) 2 2 (txr s t)
  all : Ev w0 w
theorem TxS.ev {w0 : World} {g1 g2 : Nat} {s t : ByteArray} {w w' : World} (h : TxS w0 g1 g2 s t w) (hE : Ev w w') : TxS w0 g1 g2 s t w' := ⟨h.c.ev hE, h.v.ev hE, h.all.trans hE⟩
theorem TxS.init (w u : World) (s t : ByteArray) (hE : Ev (w.alloc (.cells #[.string ⟨#[120]⟩, .int .i64 2, .string ⟨#[121]⟩, .int .i64 2] 65)) u) :
    TxS w w.heap.size u.heap.size s t (u.alloc (.cells #[.int .i64 2, .int .i64 0, .string s, .int .i64 2, .int .i64 0, .string t] 25)) :=
  ⟨((Cs.made tx2 2 rfl (by decide) w _ rfl).ev hE).ev (Ev.alloc _ _), Vs.made (txr s t) 2 rfl (by decide) u _ rfl, ((Ev.alloc _ _).trans hE).trans (Ev.alloc _ _)⟩

set_option maxRecDepth 100000 in
set_option maxHeartbeats 8000000 in
theorem texts_walk (s0 s1 : ByteArray) (w : World) (hz0 : s0.size ≤ maxLen) (hz1 : s1.size ≤ maxLen) :
    Calls Try.prog 8 #[.string s0, .string s1] w fun e w' => e = .returned (.bool true) ∧ Ev w w' := by
  have hmix : Try.prog.follows .mixedOrders = true := by kernel_rfl
  unfold maxLen at hz0 hz1
  have cut40 : ∀ s : ByteArray, (40 : Int) < (s.size : Int) → (s.extract 0 40).size = 40 := fun s h => by
    have h1 : (s.extract 0 40).data.toList.length = (s.extract 0 40).size := by rw [Array.length_toList]; rfl
    have h2 : s.data.toList.length = s.size := by rw [Array.length_toList]; rfl
    rw [← h1, Lib.extract_eq, List.drop_zero, List.length_take, h2]
    omega
  have CUT := Lib.hid cut40
  clear cut40
  go_enter Try.func8, Try.ntmps8
  go_upto_if 18 with fail
  go_cut [0] (fun v wx => ∃ s : ByteArray, v = .string s ∧ s.size ≤ 40 ∧ w = wx)
  case first =>
    by_cases hs : (40 : Int) < (s0.size : Int)
    · have HZ := Lib.hid (CUT.out s0 hs)
      have i1 : (40 : Int) ≤ (s0.size : Int) := by omega
      go_wp2_with fail
      go_meet
      exact ⟨s0.extract 0 40, rfl, by rw [HZ.out]; exact Nat.le_refl _, rfl⟩
    · go_wp2_with fail
      go_meet
      exact ⟨s0, rfl, by omega, rfl⟩
  case rest =>
    clear hz0
    obtain ⟨s0, rfl, hs0, rfl⟩ := hcut
    go_upto_if 23 with fail
    go_cut [1] (fun v wx => ∃ s : ByteArray, v = .string s ∧ s.size ≤ 40 ∧ w = wx)
    case first =>
      by_cases hs : (40 : Int) < (s1.size : Int)
      · have HZ := Lib.hid (CUT.out s1 hs)
        have i1 : (40 : Int) ≤ (s1.size : Int) := by omega
        go_wp2_with fail
        go_meet
        exact ⟨s1.extract 0 40, rfl, by rw [HZ.out]; exact Nat.le_refl _, rfl⟩
      · go_wp2_with fail
        go_meet
        exact ⟨s1, rfl, by omega, rfl⟩
    case rest =>
      clear hz1 CUT
      obtain ⟨s1, rfl, hs1, rfl⟩ := hcut
      have hcat : ¬ (s0.size + s1.size > 9223372036854775807) := by omega
      have HS := Lib.hid (fun s w1 => keep_str s w1)
      have HK := Lib.hid (fun n w1 => keep_num n w1)
      have HKn := Lib.hid (fun w1 => known8_any w1)
      have HO1 := Lib.hid (of_at ⟨#[40, 99, 97, 116, 32, 120, 32, 121, 41]⟩ _ xOf_cat xOk_cat (by decide))
      have HO2 := Lib.hid (of_at ⟨#[40, 108, 101, 110, 32, 120, 41]⟩ _ xOf_len xOk_len (by decide))
      have HO3 := Lib.hid (of_at ⟨#[40, 101, 113, 32, 120, 32, 121, 41]⟩ _ xOf_eqx xOk_eqx (by decide))
      have HO4 := Lib.hid (of_at ⟨#[40, 108, 116, 32, 120, 32, 121, 41]⟩ _ xOf_ltx xOk_ltx (by decide))
      obtain ⟨ne, hne0⟩ : ∃ ne : Int, ne = if (s0.toList == s1.toList) = true then 1 else 0 := ⟨_, rfl⟩
      obtain ⟨nl, hnl0⟩ : ∃ nl : Int, nl = if Op.bytesLess s0.toList s1.toList = true then 1 else 0 := ⟨_, rfl⟩
      have HE2 := Lib.hid (eval_at _ tx2 (txr s0 s1) 1 (s0.size : Int) ⟨#[]⟩ 0 (value_len s0 s1 hs0 hs1) (by decide +kernel) (by decide +kernel) (txr_fair hs0 hs1))
      have HE3 := Lib.hid (eval_at _ tx2 (txr s0 s1) 1 ne ⟨#[]⟩ 0 (value_eqx s0 s1 hs0 hs1 ne hne0) (by decide +kernel) (by decide +kernel) (txr_fair hs0 hs1))
      have HE4 := Lib.hid (eval_at _ tx2 (txr s0 s1) 1 nl ⟨#[]⟩ 0 (value_ltx s0 s1 hs0 hs1 nl hnl0) (by decide +kernel) (by decide +kernel) (txr_fair hs0 hs1))
      have hne : (ne == 1) = (s0.toList == s1.toList) := by rw [hne0]; cases (s0.toList == s1.toList) <;> rfl
      have hnl : (nl == 1) = Op.bytesLess s0.toList s1.toList := by rw [hnl0]; cases Op.bytesLess s0.toList s1.toList <;> rfl
      clear hne0 hnl0
      by_cases hfi : s0.size + s1.size ≤ 40
      · have i1 : (s0.size : Int) + (s1.size : Int) ≤ 40 := by omega
        have HE1 := Lib.hid (eval_at _ tx2 (txr s0 s1) 2 0 (s0 ++ s1) 0 (value_cat s0 s1 hs0 hs1 hfi) (by decide +kernel) (by decide +kernel) (txr_fair hs0 hs1))
        clear hfi
        go_wp2_with (first
          | ((with_reducible refine (HS.out s0 _).mono ?_); rintro e u1 ⟨rfl, hE1⟩)
          | ((with_reducible refine (HS.out s1 _).mono ?_); rintro e u2 ⟨rfl, hE2⟩; have S := TxS.init w u2 s0 s1 (hE1.trans hE2))
          | ((with_reducible refine (HO1.out _).mono ?_); rintro e v1 ⟨x1, rfl, t1, l1, hE⟩; replace S := S.ev hE)
          | ((with_reducible refine (HE1.out x1 _ _ _ _ _ _ _ _ t1 l1 S.c S.v).mono ?_); rintro e v1_ ⟨rfl, hE⟩; replace S := S.ev (hE.trans (Ev.alloc v1_ (.cells #[.int .i64 2, .int .i64 0, .string (s0 ++ s1)] 25))); have B1 := Boxed.new 2 0 (s0 ++ s1) v1_)
          | ((with_reducible refine (HO2.out _).mono ?_); rintro e v2 ⟨x2, rfl, t2, l2, hE⟩; replace S := S.ev hE; replace B1 := B1.ev hE)
          | ((with_reducible refine (HE2.out x2 _ _ _ _ _ _ _ _ t2 l2 S.c S.v).mono ?_); rintro e v2_ ⟨rfl, hE⟩; replace S := S.ev (hE.trans (Ev.alloc v2_ (.cells #[.int .i64 1, .int .i64 (s0.size : Int), .string ⟨#[]⟩] 25))); replace B1 := B1.ev (hE.trans (Ev.alloc v2_ (.cells #[.int .i64 1, .int .i64 (s0.size : Int), .string ⟨#[]⟩] 25))); have B2 := Boxed.new 1 (s0.size : Int) ⟨#[]⟩ v2_)
          | ((with_reducible refine (HO3.out _).mono ?_); rintro e v3 ⟨x3, rfl, t3, l3, hE⟩; replace S := S.ev hE; replace B1 := B1.ev hE; replace B2 := B2.ev hE)
          | ((with_reducible refine (HE3.out x3 _ _ _ _ _ _ _ _ t3 l3 S.c S.v).mono ?_); rintro e v3_ ⟨rfl, hE⟩; replace S := S.ev (hE.trans (Ev.alloc v3_ (.cells #[.int .i64 1, .int .i64 ne, .string ⟨#[]⟩] 25))); replace B1 := B1.ev (hE.trans (Ev.alloc v3_ (.cells #[.int .i64 1, .int .i64 ne, .string ⟨#[]⟩] 25))); replace B2 := B2.ev (hE.trans (Ev.alloc v3_ (.cells #[.int .i64 1, .int .i64 ne, .string ⟨#[]⟩] 25))); have B3 := Boxed.new 1 ne ⟨#[]⟩ v3_)
          | ((with_reducible refine (HO4.out _).mono ?_); rintro e v4 ⟨x4, rfl, t4, l4, hE⟩; replace S := S.ev hE; replace B1 := B1.ev hE; replace B2 := B2.ev hE; replace B3 := B3.ev hE)
          | ((with_reducible refine (HE4.out x4 _ _ _ _ _ _ _ _ t4 l4 S.c S.v).mono ?_); rintro e v4_ ⟨rfl, hE⟩; replace S := S.ev (hE.trans (Ev.alloc v4_ (.cells #[.int .i64 1, .int .i64 nl, .string ⟨#[]⟩] 25))); replace B1 := B1.ev (hE.trans (Ev.alloc v4_ (.cells #[.int .i64 1, .int .i64 nl, .string ⟨#[]⟩] 25))); replace B2 := B2.ev (hE.trans (Ev.alloc v4_ (.cells #[.int .i64 1, .int .i64 nl, .string ⟨#[]⟩] 25))); replace B3 := B3.ev (hE.trans (Ev.alloc v4_ (.cells #[.int .i64 1, .int .i64 nl, .string ⟨#[]⟩] 25))); have B4 := Boxed.new 1 nl ⟨#[]⟩ v4_))
        generalize v1_.heap.size = p1 at *
        generalize v2_.heap.size = p2 at *
        generalize v3_.heap.size = p3 at *
        generalize v4_.heap.size = p4 at *
        refine wp_region_slots hmix [fun v _ => v = .int .i64 0, fun v _ => v = .bool true, fun v _ => v = .bool true, fun v _ => v = .bool true, fun v _ => v = .bool true, fun v _ => v = .bool true, fun v _ => v = .bool true, fun _ _ => True, fun _ _ => True, fun v _ => v = .bool true, fun v _ => v = .bool true, fun v _ => v = .bool true, fun v _ => v = .bool true, fun v _ => v = .bool false, fun v _ => v = .bool false, fun v _ => v = vv 2 0 (s0 ++ s1), fun v _ => v = .string s0, fun v _ => v = .string s1, fun v _ => v = .string (s0 ++ s1), fun v _ => v = vv 2 0 (s0 ++ s1), fun v _ => v = .bool true, fun v _ => v = .bool true, fun v _ => v = .bool true, fun v _ => v = .bool true, fun v _ => v = .int .i64 0, fun v _ => v = .bool true, fun v _ => v = .bool true, fun v _ => v = .bool true, fun v _ => v = vv 1 (s0.size : Int) ⟨#[]⟩, fun v _ => v = .string s0, fun v _ => v = .int .i64 (s0.size : Int), fun v _ => v = vv 1 (s0.size : Int) ⟨#[]⟩, fun v _ => v = .bool true, fun v _ => v = .bool true, fun v _ => v = .bool true, fun v _ => v = .int .i64 0, fun v _ => v = .bool true, fun v _ => v = .bool true, fun v _ => v = .bool true, fun v _ => v = .int .i64 0, fun v _ => v = .bool true, fun v _ => v = .bool true, fun v _ => v = .bool true, fun v _ => v = .pointer (some ⟨p3, 1, none⟩), fun v _ => v = .int .i64 ne, fun v _ => v = .bool (s0.toList == s1.toList), fun v _ => v = .string s0, fun v _ => v = .string s1, fun v _ => v = .bool (s0.toList == s1.toList), fun v _ => v = .bool true, fun v _ => v = .bool true, fun v _ => v = .bool true, fun v _ => v = .pointer (some ⟨p4, 1, none⟩), fun v _ => v = .int .i64 nl, fun v _ => v = .bool (Op.bytesLess s0.toList s1.toList), fun v _ => v = .string s0, fun v _ => v = .string s1, fun v _ => v = .bool (Op.bytesLess s0.toList s1.toList), fun v _ => v = .bool true, fun v _ => v = .bool true, fun v _ => v = .bool true, fun v _ => v = .bool true, fun v _ => v = .bool true, fun v _ => v = .bool true]
          131 rfl (by kernel_rfl) ⟨mono_eq _, mono_eq _, mono_eq _, mono_eq _, mono_eq _, mono_eq _, mono_eq _, mono_true, mono_true, mono_eq _, mono_eq _, mono_eq _, mono_eq _, mono_eq _, mono_eq _, mono_eq _, mono_eq _, mono_eq _, mono_eq _, mono_eq _, mono_eq _, mono_eq _, mono_eq _, mono_eq _, mono_eq _, mono_eq _, mono_eq _, mono_eq _, mono_eq _, mono_eq _, mono_eq _, mono_eq _, mono_eq _, mono_eq _, mono_eq _, mono_eq _, mono_eq _, mono_eq _, mono_eq _, mono_eq _, mono_eq _, mono_eq _, mono_eq _, mono_eq _, mono_eq _, mono_eq _, mono_eq _, mono_eq _, mono_eq _, mono_eq _, mono_eq _, mono_eq _, mono_eq _, mono_eq _, mono_eq _, mono_eq _, mono_eq _, mono_eq _, mono_eq _, mono_eq _, mono_eq _, mono_eq _, mono_eq _, mono_eq _, trivial⟩ ?_ ?_
        · refine ops_cons 0 ?_ (ops_cons 1 ?_ (ops_cons 2 ?_ (ops_cons 3 ?_ (ops_cons 4 ?_ (ops_cons 5 ?_ (ops_cons 6 ?_ (ops_cons 7 ?_ (ops_cons 8 ?_ (ops_cons 9 ?_ (ops_cons 10 ?_ (ops_cons 11 ?_ (ops_cons 12 ?_ (ops_cons 13 ?_ (ops_cons 14 ?_ (ops_cons 15 ?_ (ops_cons 16 ?_ (ops_cons 17 ?_ (ops_cons 18 ?_ (ops_cons 19 ?_ (ops_cons 20 ?_ (ops_cons 21 ?_ (ops_cons 22 ?_ (ops_cons 23 ?_ (ops_cons 24 ?_ (ops_cons 25 ?_ (ops_cons 26 ?_ (ops_cons 27 ?_ (ops_cons 28 ?_ (ops_cons 29 ?_ (ops_cons 30 ?_ (ops_cons 31 ?_ (ops_cons 32 ?_ (ops_cons 33 ?_ (ops_cons 34 ?_ (ops_cons 35 ?_ (ops_cons 36 ?_ (ops_cons 37 ?_ (ops_cons 38 ?_ (ops_cons 39 ?_ (ops_cons 40 ?_ (ops_cons 41 ?_ (ops_cons 42 ?_ (ops_cons 43 ?_ (ops_cons 44 ?_ (ops_cons 45 ?_ (ops_cons 46 ?_ (ops_cons 47 ?_ (ops_cons 48 ?_ (ops_cons 49 ?_ (ops_cons 50 ?_ (ops_cons 51 ?_ (ops_cons 52 ?_ (ops_cons 53 ?_ (ops_cons 54 ?_ (ops_cons 55 ?_ (ops_cons 56 ?_ (ops_cons 57 ?_ (ops_cons 58 ?_ (ops_cons 59 ?_ (ops_cons 60 ?_ (ops_cons 61 ?_ (ops_cons 62 ?_ (ops_cons 63 ?_ (ops_nil 64))))))))))))))))))))))))))))))))))))))))))))))))))))))))))))))))
          · refine op_value fun a w c => ⟨(wanted_plain rfl), _, run_move _ rfl w, (c.was 8 (by kernel_rfl) rfl)⟩
          · refine op_value fun a w c => ⟨(wanted_plain rfl), .bool true, ?_, rfl⟩
            have e68 : a.eval (.tmp 68) = .int .i64 0 := (c.new 0 68 (by kernel_rfl) (by kernel_rfl))
            have kc0 : a.eval (.const (.int .i64 0)) = .int .i64 0 := rfl
            generalize a.eval = ρ at e68 kc0 ⊢
            simp [execOp, e68, kc0, go_sem]
          · refine op_value fun a w c => ⟨(wanted_plain rfl), _, run_move _ rfl w, (c.was 15 (by kernel_rfl) rfl)⟩
          · refine op_value fun a w c => ⟨(wanted_plain rfl), .bool true, ?_, rfl⟩
            have e69 : a.eval (.tmp 69) = .bool true := (c.new 1 69 (by kernel_rfl) (by kernel_rfl))
            have e70 : a.eval (.tmp 70) = .bool true := (c.new 2 70 (by kernel_rfl) (by kernel_rfl))
            generalize a.eval = ρ at e69 e70 ⊢
            simp [execOp, e69, e70, go_sem]
          · refine op_value fun a w c => ⟨(wanted_plain rfl), _, run_move _ rfl w, (c.new 3 71 (by kernel_rfl) (by kernel_rfl))⟩
          · refine op_value fun a w c => ⟨(wanted_yes rfl (by kernel_rfl) (c.new 4 72 (by kernel_rfl) (by kernel_rfl))), _, run_move _ rfl w, (c.was 15 (by kernel_rfl) rfl)⟩
          · refine op_value fun a w c => ⟨(wanted_yes rfl (by kernel_rfl) (c.new 4 72 (by kernel_rfl) (by kernel_rfl))), _, run_move _ rfl w, (c.new 5 73 (by kernel_rfl) (by kernel_rfl))⟩
          · refine op_skip fun a w c => ⟨(wanted_no rfl (by kernel_rfl) (c.new 6 74 (by kernel_rfl) (by kernel_rfl)) (by decide)), trivial⟩
          · refine op_skip fun a w c => ⟨(wanted_no rfl (by kernel_rfl) (c.new 6 74 (by kernel_rfl) (by kernel_rfl)) (by decide)), trivial⟩
          · refine op_value fun a w c => ⟨(wanted_yes rfl (by kernel_rfl) (c.new 4 72 (by kernel_rfl) (by kernel_rfl))), _, run_pick_true rfl (c.new 6 74 (by kernel_rfl) (by kernel_rfl)) w, (evc a _)⟩
          · refine op_value fun a w c => ⟨(wanted_plain rfl), _, run_pick_true rfl (c.new 4 72 (by kernel_rfl) (by kernel_rfl)) w, (c.new 9 77 (by kernel_rfl) (by kernel_rfl))⟩
          · refine op_value fun a w c => ⟨(wanted_plain rfl), _, run_move _ rfl w, (c.new 10 78 (by kernel_rfl) (by kernel_rfl))⟩
          · refine op_value fun a w c => ⟨(wanted_yes rfl (by kernel_rfl) (c.new 11 79 (by kernel_rfl) (by kernel_rfl))), _, run_move _ rfl w, (c.was 15 (by kernel_rfl) rfl)⟩
          · refine op_value fun a w c => ⟨(wanted_yes rfl (by kernel_rfl) (c.new 11 79 (by kernel_rfl) (by kernel_rfl))), .bool false, ?_, rfl⟩
            have e80 : a.eval (.tmp 80) = .bool true := (c.new 12 80 (by kernel_rfl) (by kernel_rfl))
            generalize a.eval = ρ at e80 ⊢
            simp [execOp, e80, go_sem]
          · refine op_value fun a w c => ⟨(wanted_yes rfl (by kernel_rfl) (c.new 11 79 (by kernel_rfl) (by kernel_rfl))), _, run_move _ rfl w, (c.new 13 81 (by kernel_rfl) (by kernel_rfl))⟩
          · refine op_value fun a w c => ⟨(wanted_yes rfl (by kernel_rfl) (c.new 14 82 (by kernel_rfl) (by kernel_rfl))), _, run_load_val rfl ((c.was 7 (by kernel_rfl) rfl) : a.eval (.tmp 7) = .pointer (some ⟨p1, 0, none⟩)) (B1.ev c.ev), rfl⟩
          · refine op_value fun a w c => ⟨(wanted_yes rfl (by kernel_rfl) (c.new 14 82 (by kernel_rfl) (by kernel_rfl))), _, run_move _ rfl w, (c.was 0 (by kernel_rfl) rfl)⟩
          · refine op_value fun a w c => ⟨(wanted_yes rfl (by kernel_rfl) (c.new 14 82 (by kernel_rfl) (by kernel_rfl))), _, run_move _ rfl w, (c.was 1 (by kernel_rfl) rfl)⟩
          · refine op_value fun a w c => ⟨(wanted_yes rfl (by kernel_rfl) (c.new 14 82 (by kernel_rfl) (by kernel_rfl))), .string (s0 ++ s1), ?_, rfl⟩
            have e84 : a.eval (.tmp 84) = .string s0 := (c.new 16 84 (by kernel_rfl) (by kernel_rfl))
            have e85 : a.eval (.tmp 85) = .string s1 := (c.new 17 85 (by kernel_rfl) (by kernel_rfl))
            generalize a.eval = ρ at e84 e85 ⊢
            simp [execOp, e84, e85, go_sem, hcat]
          · refine op_call fun a w c => ⟨(wanted_yes rfl (by kernel_rfl) (c.new 14 82 (by kernel_rfl) (by kernel_rfl))), 11, #[.string (s0 ++ s1)], ?_, ?_⟩
            · rw [run_call 11 _ _ rfl (by kernel_rfl)]
              have e86 : a.eval (.tmp 86) = .string (s0 ++ s1) := (c.new 18 86 (by kernel_rfl) (by kernel_rfl))
              simp [e86]
            · refine (HS.out (s0 ++ s1) w).mono ?_
              rintro e w2 ⟨rfl, hE⟩
              exact ⟨_, rfl, hE, rfl⟩
          · refine op_value fun a w c => ⟨(wanted_yes rfl (by kernel_rfl) (c.new 14 82 (by kernel_rfl) (by kernel_rfl))), _, op_eq_val rfl ((c.new 15 83 (by kernel_rfl) (by kernel_rfl)) : a.eval (.tmp 83) = vv 2 0 (s0 ++ s1)) ((c.new 19 87 (by kernel_rfl) (by kernel_rfl)) : a.eval (.tmp 87) = vv 2 0 (s0 ++ s1)), congrArg Value.bool (sameV_self _ _ _)⟩
          · refine op_value fun a w c => ⟨(wanted_yes rfl (by kernel_rfl) (c.new 11 79 (by kernel_rfl) (by kernel_rfl))), _, run_pick_false rfl (c.new 14 82 (by kernel_rfl) (by kernel_rfl)) w, (c.new 20 88 (by kernel_rfl) (by kernel_rfl))⟩
          · refine op_value fun a w c => ⟨(wanted_plain rfl), _, run_pick_true rfl (c.new 11 79 (by kernel_rfl) (by kernel_rfl)) w, (c.new 21 89 (by kernel_rfl) (by kernel_rfl))⟩
          · refine op_value fun a w c => ⟨(wanted_plain rfl), _, run_move _ rfl w, (c.new 22 90 (by kernel_rfl) (by kernel_rfl))⟩
          · refine op_value fun a w c => ⟨(wanted_yes rfl (by kernel_rfl) (c.new 23 91 (by kernel_rfl) (by kernel_rfl))), _, run_move _ rfl w, (c.was 10 (by kernel_rfl) rfl)⟩
          · refine op_value fun a w c => ⟨(wanted_yes rfl (by kernel_rfl) (c.new 23 91 (by kernel_rfl) (by kernel_rfl))), .bool true, ?_, rfl⟩
            have e92 : a.eval (.tmp 92) = .int .i64 0 := (c.new 24 92 (by kernel_rfl) (by kernel_rfl))
            have kc0 : a.eval (.const (.int .i64 0)) = .int .i64 0 := rfl
            generalize a.eval = ρ at e92 kc0 ⊢
            simp [execOp, e92, kc0, go_sem]
          · refine op_value fun a w c => ⟨(wanted_plain rfl), _, run_pick_true rfl (c.new 23 91 (by kernel_rfl) (by kernel_rfl)) w, (c.new 25 93 (by kernel_rfl) (by kernel_rfl))⟩
          · refine op_value fun a w c => ⟨(wanted_plain rfl), _, run_move _ rfl w, (c.new 26 94 (by kernel_rfl) (by kernel_rfl))⟩
          · refine op_value fun a w c => ⟨(wanted_yes rfl (by kernel_rfl) (c.new 27 95 (by kernel_rfl) (by kernel_rfl))), _, run_load_val rfl ((c.was 9 (by kernel_rfl) rfl) : a.eval (.tmp 9) = .pointer (some ⟨p2, 0, none⟩)) (B2.ev c.ev), rfl⟩
          · refine op_value fun a w c => ⟨(wanted_yes rfl (by kernel_rfl) (c.new 27 95 (by kernel_rfl) (by kernel_rfl))), _, run_move _ rfl w, (c.was 0 (by kernel_rfl) rfl)⟩
          · refine op_value fun a w c => ⟨(wanted_yes rfl (by kernel_rfl) (c.new 27 95 (by kernel_rfl) (by kernel_rfl))), .int .i64 (s0.size : Int), ?_, rfl⟩
            have e97 : a.eval (.tmp 97) = .string s0 := (c.new 29 97 (by kernel_rfl) (by kernel_rfl))
            generalize a.eval = ρ at e97 ⊢
            simp [e97, go_sem]
          · refine op_call fun a w c => ⟨(wanted_yes rfl (by kernel_rfl) (c.new 27 95 (by kernel_rfl) (by kernel_rfl))), 10, #[.int .i64 (s0.size : Int)], ?_, ?_⟩
            · rw [run_call 10 _ _ rfl (by kernel_rfl)]
              have e98 : a.eval (.tmp 98) = .int .i64 (s0.size : Int) := (c.new 30 98 (by kernel_rfl) (by kernel_rfl))
              simp [e98]
            · refine (HK.out (s0.size : Int) w).mono ?_
              rintro e w2 ⟨rfl, hE⟩
              exact ⟨_, rfl, hE, rfl⟩
          · refine op_value fun a w c => ⟨(wanted_yes rfl (by kernel_rfl) (c.new 27 95 (by kernel_rfl) (by kernel_rfl))), _, op_eq_val rfl ((c.new 28 96 (by kernel_rfl) (by kernel_rfl)) : a.eval (.tmp 96) = vv 1 (s0.size : Int) ⟨#[]⟩) ((c.new 31 99 (by kernel_rfl) (by kernel_rfl)) : a.eval (.tmp 99) = vv 1 (s0.size : Int) ⟨#[]⟩), congrArg Value.bool (sameV_self _ _ _)⟩
          · refine op_value fun a w c => ⟨(wanted_plain rfl), _, run_pick_true rfl (c.new 27 95 (by kernel_rfl) (by kernel_rfl)) w, (c.new 32 100 (by kernel_rfl) (by kernel_rfl))⟩
          · refine op_value fun a w c => ⟨(wanted_plain rfl), _, run_move _ rfl w, (c.new 33 101 (by kernel_rfl) (by kernel_rfl))⟩
          · refine op_value fun a w c => ⟨(wanted_yes rfl (by kernel_rfl) (c.new 34 102 (by kernel_rfl) (by kernel_rfl))), _, run_move _ rfl w, (c.was 12 (by kernel_rfl) rfl)⟩
          · refine op_value fun a w c => ⟨(wanted_yes rfl (by kernel_rfl) (c.new 34 102 (by kernel_rfl) (by kernel_rfl))), .bool true, ?_, rfl⟩
            have e103 : a.eval (.tmp 103) = .int .i64 0 := (c.new 35 103 (by kernel_rfl) (by kernel_rfl))
            have kc0 : a.eval (.const (.int .i64 0)) = .int .i64 0 := rfl
            generalize a.eval = ρ at e103 kc0 ⊢
            simp [execOp, e103, kc0, go_sem]
          · refine op_value fun a w c => ⟨(wanted_plain rfl), _, run_pick_true rfl (c.new 34 102 (by kernel_rfl) (by kernel_rfl)) w, (c.new 36 104 (by kernel_rfl) (by kernel_rfl))⟩
          · refine op_value fun a w c => ⟨(wanted_plain rfl), _, run_move _ rfl w, (c.new 37 105 (by kernel_rfl) (by kernel_rfl))⟩
          · refine op_value fun a w c => ⟨(wanted_yes rfl (by kernel_rfl) (c.new 38 106 (by kernel_rfl) (by kernel_rfl))), _, run_move _ rfl w, (c.was 14 (by kernel_rfl) rfl)⟩
          · refine op_value fun a w c => ⟨(wanted_yes rfl (by kernel_rfl) (c.new 38 106 (by kernel_rfl) (by kernel_rfl))), .bool true, ?_, rfl⟩
            have e107 : a.eval (.tmp 107) = .int .i64 0 := (c.new 39 107 (by kernel_rfl) (by kernel_rfl))
            have kc0 : a.eval (.const (.int .i64 0)) = .int .i64 0 := rfl
            generalize a.eval = ρ at e107 kc0 ⊢
            simp [execOp, e107, kc0, go_sem]
          · refine op_value fun a w c => ⟨(wanted_plain rfl), _, run_pick_true rfl (c.new 38 106 (by kernel_rfl) (by kernel_rfl)) w, (c.new 40 108 (by kernel_rfl) (by kernel_rfl))⟩
          · refine op_value fun a w c => ⟨(wanted_plain rfl), _, run_move _ rfl w, (c.new 41 109 (by kernel_rfl) (by kernel_rfl))⟩
          · refine op_value fun a w c => ⟨(wanted_yes rfl (by kernel_rfl) (c.new 42 110 (by kernel_rfl) (by kernel_rfl))), .pointer (some ⟨p3, 1, none⟩), ?_, rfl⟩
            have e11 : a.eval (.tmp 11) = .pointer (some ⟨p3, 0, none⟩) := (c.was 11 (by kernel_rfl) rfl)
            generalize a.eval = ρ at e11 ⊢
            simp [execOp, e11, go_sem]
          · refine op_value fun a w c => ⟨(wanted_yes rfl (by kernel_rfl) (c.new 42 110 (by kernel_rfl) (by kernel_rfl))), .int .i64 ne, ?_, rfl⟩
            have e111 : a.eval (.tmp 111) = .pointer (some ⟨p3, 1, none⟩) := (c.new 43 111 (by kernel_rfl) (by kernel_rfl))
            have hc := (c.ev.cell (p := ⟨_, _, none⟩) B3.lt).trans B3.c1
            generalize a.eval = ρ at e111 ⊢
            simp [execOp, e111, hc, go_sem]
          · refine op_value fun a w c => ⟨(wanted_yes rfl (by kernel_rfl) (c.new 42 110 (by kernel_rfl) (by kernel_rfl))), .bool (s0.toList == s1.toList), ?_, rfl⟩
            have e112 : a.eval (.tmp 112) = .int .i64 ne := (c.new 44 112 (by kernel_rfl) (by kernel_rfl))
            have kc0 : a.eval (.const (.int .i64 1)) = .int .i64 1 := rfl
            generalize a.eval = ρ at e112 kc0 ⊢
            simp [execOp, e112, kc0, go_sem, hne]
          · refine op_value fun a w c => ⟨(wanted_yes rfl (by kernel_rfl) (c.new 42 110 (by kernel_rfl) (by kernel_rfl))), _, run_move _ rfl w, (c.was 0 (by kernel_rfl) rfl)⟩
          · refine op_value fun a w c => ⟨(wanted_yes rfl (by kernel_rfl) (c.new 42 110 (by kernel_rfl) (by kernel_rfl))), _, run_move _ rfl w, (c.was 1 (by kernel_rfl) rfl)⟩
          · refine op_value fun a w c => ⟨(wanted_yes rfl (by kernel_rfl) (c.new 42 110 (by kernel_rfl) (by kernel_rfl))), .bool (s0.toList == s1.toList), ?_, rfl⟩
            have e114 : a.eval (.tmp 114) = .string s0 := (c.new 46 114 (by kernel_rfl) (by kernel_rfl))
            have e115 : a.eval (.tmp 115) = .string s1 := (c.new 47 115 (by kernel_rfl) (by kernel_rfl))
            generalize a.eval = ρ at e114 e115 ⊢
            simp [execOp, e114, e115, go_sem]
          · refine op_value fun a w c => ⟨(wanted_yes rfl (by kernel_rfl) (c.new 42 110 (by kernel_rfl) (by kernel_rfl))), .bool true, ?_, rfl⟩
            have e113 : a.eval (.tmp 113) = .bool (s0.toList == s1.toList) := (c.new 45 113 (by kernel_rfl) (by kernel_rfl))
            have e116 : a.eval (.tmp 116) = .bool (s0.toList == s1.toList) := (c.new 48 116 (by kernel_rfl) (by kernel_rfl))
            generalize a.eval = ρ at e113 e116 ⊢
            simp [execOp, e113, e116, go_sem]
          · refine op_value fun a w c => ⟨(wanted_plain rfl), _, run_pick_true rfl (c.new 42 110 (by kernel_rfl) (by kernel_rfl)) w, (c.new 49 117 (by kernel_rfl) (by kernel_rfl))⟩
          · refine op_value fun a w c => ⟨(wanted_plain rfl), _, run_move _ rfl w, (c.new 50 118 (by kernel_rfl) (by kernel_rfl))⟩
          · refine op_value fun a w c => ⟨(wanted_yes rfl (by kernel_rfl) (c.new 51 119 (by kernel_rfl) (by kernel_rfl))), .pointer (some ⟨p4, 1, none⟩), ?_, rfl⟩
            have e13 : a.eval (.tmp 13) = .pointer (some ⟨p4, 0, none⟩) := (c.was 13 (by kernel_rfl) rfl)
            generalize a.eval = ρ at e13 ⊢
            simp [execOp, e13, go_sem]
          · refine op_value fun a w c => ⟨(wanted_yes rfl (by kernel_rfl) (c.new 51 119 (by kernel_rfl) (by kernel_rfl))), .int .i64 nl, ?_, rfl⟩
            have e120 : a.eval (.tmp 120) = .pointer (some ⟨p4, 1, none⟩) := (c.new 52 120 (by kernel_rfl) (by kernel_rfl))
            have hc := (c.ev.cell (p := ⟨_, _, none⟩) B4.lt).trans B4.c1
            generalize a.eval = ρ at e120 ⊢
            simp [execOp, e120, hc, go_sem]
          · refine op_value fun a w c => ⟨(wanted_yes rfl (by kernel_rfl) (c.new 51 119 (by kernel_rfl) (by kernel_rfl))), .bool (Op.bytesLess s0.toList s1.toList), ?_, rfl⟩
            have e121 : a.eval (.tmp 121) = .int .i64 nl := (c.new 53 121 (by kernel_rfl) (by kernel_rfl))
            have kc0 : a.eval (.const (.int .i64 1)) = .int .i64 1 := rfl
            generalize a.eval = ρ at e121 kc0 ⊢
            simp [execOp, e121, kc0, go_sem, hnl]
          · refine op_value fun a w c => ⟨(wanted_yes rfl (by kernel_rfl) (c.new 51 119 (by kernel_rfl) (by kernel_rfl))), _, run_move _ rfl w, (c.was 0 (by kernel_rfl) rfl)⟩
          · refine op_value fun a w c => ⟨(wanted_yes rfl (by kernel_rfl) (c.new 51 119 (by kernel_rfl) (by kernel_rfl))), _, run_move _ rfl w, (c.was 1 (by kernel_rfl) rfl)⟩
          · refine op_value fun a w c => ⟨(wanted_yes rfl (by kernel_rfl) (c.new 51 119 (by kernel_rfl) (by kernel_rfl))), .bool (Op.bytesLess s0.toList s1.toList), ?_, rfl⟩
            have e123 : a.eval (.tmp 123) = .string s0 := (c.new 55 123 (by kernel_rfl) (by kernel_rfl))
            have e124 : a.eval (.tmp 124) = .string s1 := (c.new 56 124 (by kernel_rfl) (by kernel_rfl))
            generalize a.eval = ρ at e123 e124 ⊢
            simp [execOp, e123, e124, go_sem]
          · refine op_value fun a w c => ⟨(wanted_yes rfl (by kernel_rfl) (c.new 51 119 (by kernel_rfl) (by kernel_rfl))), .bool true, ?_, rfl⟩
            have e122 : a.eval (.tmp 122) = .bool (Op.bytesLess s0.toList s1.toList) := (c.new 54 122 (by kernel_rfl) (by kernel_rfl))
            have e125 : a.eval (.tmp 125) = .bool (Op.bytesLess s0.toList s1.toList) := (c.new 57 125 (by kernel_rfl) (by kernel_rfl))
            generalize a.eval = ρ at e122 e125 ⊢
            simp [execOp, e122, e125, go_sem]
          · refine op_value fun a w c => ⟨(wanted_plain rfl), _, run_pick_true rfl (c.new 51 119 (by kernel_rfl) (by kernel_rfl)) w, (c.new 58 126 (by kernel_rfl) (by kernel_rfl))⟩
          · refine op_value fun a w c => ⟨(wanted_plain rfl), _, run_move _ rfl w, (c.new 59 127 (by kernel_rfl) (by kernel_rfl))⟩
          · refine op_call fun a w c => ⟨(wanted_yes rfl (by kernel_rfl) (c.new 60 128 (by kernel_rfl) (by kernel_rfl))), 25, #[], ?_, ?_⟩
            · rw [run_call 25 _ _ rfl (by kernel_rfl)]
              simp
            · refine (HKn.out w).mono ?_
              rintro e w2 ⟨rfl, hE⟩
              exact ⟨_, rfl, hE, rfl⟩
          · refine op_value fun a w c => ⟨(wanted_plain rfl), _, run_pick_true rfl (c.new 60 128 (by kernel_rfl) (by kernel_rfl)) w, (c.new 61 129 (by kernel_rfl) (by kernel_rfl))⟩
          · refine op_value fun a w c => ⟨(wanted_plain rfl), _, run_assign _ rfl w, (c.new 62 130 (by kernel_rfl) (by kernel_rfl))⟩
        intro sl wr hEr hold hnew
        have f0 : sl 0 = .string s0 := hold 0 (by kernel_rfl)
        have f1 : sl 1 = .string s1 := hold 1 (by kernel_rfl)
        have f7 : sl 7 = .pointer (some ⟨p1, 0, none⟩) := hold 7 (by kernel_rfl)
        have f8 : sl 8 = .int .i64 0 := hold 8 (by kernel_rfl)
        have f9 : sl 9 = .pointer (some ⟨p2, 0, none⟩) := hold 9 (by kernel_rfl)
        have f10 : sl 10 = .int .i64 0 := hold 10 (by kernel_rfl)
        have f11 : sl 11 = .pointer (some ⟨p3, 0, none⟩) := hold 11 (by kernel_rfl)
        have f12 : sl 12 = .int .i64 0 := hold 12 (by kernel_rfl)
        have f13 : sl 13 = .pointer (some ⟨p4, 0, none⟩) := hold 13 (by kernel_rfl)
        have f14 : sl 14 = .int .i64 0 := hold 14 (by kernel_rfl)
        have f15 : sl 15 = .bool true := hold 15 (by kernel_rfl)
        have f4 : sl 4 = .bool true := hnew 63 4 (by kernel_rfl)
        have f68 : sl 68 = .int .i64 0 := hnew 0 68 (by kernel_rfl)
        have f69 : sl 69 = .bool true := hnew 1 69 (by kernel_rfl)
        have f70 : sl 70 = .bool true := hnew 2 70 (by kernel_rfl)
        have f71 : sl 71 = .bool true := hnew 3 71 (by kernel_rfl)
        have f72 : sl 72 = .bool true := hnew 4 72 (by kernel_rfl)
        have f73 : sl 73 = .bool true := hnew 5 73 (by kernel_rfl)
        have f74 : sl 74 = .bool true := hnew 6 74 (by kernel_rfl)
        have f77 : sl 77 = .bool true := hnew 9 77 (by kernel_rfl)
        have f78 : sl 78 = .bool true := hnew 10 78 (by kernel_rfl)
        have f79 : sl 79 = .bool true := hnew 11 79 (by kernel_rfl)
        have f80 : sl 80 = .bool true := hnew 12 80 (by kernel_rfl)
        have f81 : sl 81 = .bool false := hnew 13 81 (by kernel_rfl)
        have f82 : sl 82 = .bool false := hnew 14 82 (by kernel_rfl)
        have f83 : sl 83 = vv 2 0 (s0 ++ s1) := hnew 15 83 (by kernel_rfl)
        have f84 : sl 84 = .string s0 := hnew 16 84 (by kernel_rfl)
        have f85 : sl 85 = .string s1 := hnew 17 85 (by kernel_rfl)
        have f86 : sl 86 = .string (s0 ++ s1) := hnew 18 86 (by kernel_rfl)
        have f87 : sl 87 = vv 2 0 (s0 ++ s1) := hnew 19 87 (by kernel_rfl)
        have f88 : sl 88 = .bool true := hnew 20 88 (by kernel_rfl)
        have f89 : sl 89 = .bool true := hnew 21 89 (by kernel_rfl)
        have f90 : sl 90 = .bool true := hnew 22 90 (by kernel_rfl)
        have f91 : sl 91 = .bool true := hnew 23 91 (by kernel_rfl)
        have f92 : sl 92 = .int .i64 0 := hnew 24 92 (by kernel_rfl)
        have f93 : sl 93 = .bool true := hnew 25 93 (by kernel_rfl)
        have f94 : sl 94 = .bool true := hnew 26 94 (by kernel_rfl)
        have f95 : sl 95 = .bool true := hnew 27 95 (by kernel_rfl)
        have f96 : sl 96 = vv 1 (s0.size : Int) ⟨#[]⟩ := hnew 28 96 (by kernel_rfl)
        have f97 : sl 97 = .string s0 := hnew 29 97 (by kernel_rfl)
        have f98 : sl 98 = .int .i64 (s0.size : Int) := hnew 30 98 (by kernel_rfl)
        have f99 : sl 99 = vv 1 (s0.size : Int) ⟨#[]⟩ := hnew 31 99 (by kernel_rfl)
        have f100 : sl 100 = .bool true := hnew 32 100 (by kernel_rfl)
        have f101 : sl 101 = .bool true := hnew 33 101 (by kernel_rfl)
        have f102 : sl 102 = .bool true := hnew 34 102 (by kernel_rfl)
        have f103 : sl 103 = .int .i64 0 := hnew 35 103 (by kernel_rfl)
        have f104 : sl 104 = .bool true := hnew 36 104 (by kernel_rfl)
        have f105 : sl 105 = .bool true := hnew 37 105 (by kernel_rfl)
        have f106 : sl 106 = .bool true := hnew 38 106 (by kernel_rfl)
        have f107 : sl 107 = .int .i64 0 := hnew 39 107 (by kernel_rfl)
        have f108 : sl 108 = .bool true := hnew 40 108 (by kernel_rfl)
        have f109 : sl 109 = .bool true := hnew 41 109 (by kernel_rfl)
        have f110 : sl 110 = .bool true := hnew 42 110 (by kernel_rfl)
        have f111 : sl 111 = .pointer (some ⟨p3, 1, none⟩) := hnew 43 111 (by kernel_rfl)
        have f112 : sl 112 = .int .i64 ne := hnew 44 112 (by kernel_rfl)
        have f113 : sl 113 = .bool (s0.toList == s1.toList) := hnew 45 113 (by kernel_rfl)
        have f114 : sl 114 = .string s0 := hnew 46 114 (by kernel_rfl)
        have f115 : sl 115 = .string s1 := hnew 47 115 (by kernel_rfl)
        have f116 : sl 116 = .bool (s0.toList == s1.toList) := hnew 48 116 (by kernel_rfl)
        have f117 : sl 117 = .bool true := hnew 49 117 (by kernel_rfl)
        have f118 : sl 118 = .bool true := hnew 50 118 (by kernel_rfl)
        have f119 : sl 119 = .bool true := hnew 51 119 (by kernel_rfl)
        have f120 : sl 120 = .pointer (some ⟨p4, 1, none⟩) := hnew 52 120 (by kernel_rfl)
        have f121 : sl 121 = .int .i64 nl := hnew 53 121 (by kernel_rfl)
        have f122 : sl 122 = .bool (Op.bytesLess s0.toList s1.toList) := hnew 54 122 (by kernel_rfl)
        have f123 : sl 123 = .string s0 := hnew 55 123 (by kernel_rfl)
        have f124 : sl 124 = .string s1 := hnew 56 124 (by kernel_rfl)
        have f125 : sl 125 = .bool (Op.bytesLess s0.toList s1.toList) := hnew 57 125 (by kernel_rfl)
        have f126 : sl 126 = .bool true := hnew 58 126 (by kernel_rfl)
        have f127 : sl 127 = .bool true := hnew 59 127 (by kernel_rfl)
        have f128 : sl 128 = .bool true := hnew 60 128 (by kernel_rfl)
        have f129 : sl 129 = .bool true := hnew 61 129 (by kernel_rfl)
        have f130 : sl 130 = .bool true := hnew 62 130 (by kernel_rfl)
        change Exit.then _ _ .normal ⟨#[sl 0, sl 1, sl 2, sl 3, sl 4, sl 5, sl 6, sl 7, sl 8, sl 9, sl 10, sl 11, sl 12, sl 13, sl 14, sl 15, sl 16, sl 17, sl 18, sl 19, sl 20, sl 21, sl 22, sl 23, sl 24, sl 25, sl 26, sl 27, sl 28, sl 29, sl 30, sl 31, sl 32, sl 33, sl 34, sl 35, sl 36, sl 37, sl 38, sl 39, sl 40, sl 41, sl 42, sl 43, sl 44, sl 45, sl 46, sl 47, sl 48, sl 49, sl 50, sl 51, sl 52, sl 53, sl 54, sl 55, sl 56, sl 57, sl 58, sl 59, sl 60, sl 61, sl 62, sl 63, sl 64, sl 65, sl 66, sl 67, sl 68, sl 69, sl 70, sl 71, sl 72, sl 73, sl 74, sl 75, sl 76, sl 77, sl 78, sl 79, sl 80, sl 81, sl 82, sl 83, sl 84, sl 85, sl 86, sl 87, sl 88, sl 89, sl 90, sl 91, sl 92, sl 93, sl 94, sl 95, sl 96, sl 97, sl 98, sl 99, sl 100, sl 101, sl 102, sl 103, sl 104, sl 105, sl 106, sl 107, sl 108, sl 109, sl 110, sl 111, sl 112, sl 113, sl 114, sl 115, sl 116, sl 117, sl 118, sl 119, sl 120, sl 121, sl 122, sl 123, sl 124, sl 125, sl 126, sl 127, sl 128, sl 129, sl 130], _⟩ _
        simp only [f0, f1, f7, f8, f9, f10, f11, f12, f13, f14, f15, f4, f68, f69, f70, f71, f72, f73, f74, f77, f78, f79, f80, f81, f82, f83, f84, f85, f86, f87, f88, f89, f90, f91, f92, f93, f94, f95, f96, f97, f98, f99, f100, f101, f102, f103, f104, f105, f106, f107, f108, f109, f110, f111, f112, f113, f114, f115, f116, f117, f118, f119, f120, f121, f122, f123, f124, f125, f126, f127, f128, f129, f130]
        clear hold hnew
        go_wp2
        go_ret
        exact ⟨rfl, S.all.trans hEr⟩
      · have i1 : decide ((s0.size : Int) + (s1.size : Int) ≤ 40) = false := decide_eq_false (by omega)
        have HE1 := Lib.hid (eval_at _ tx2 (txr s0 s1) 0 0 ⟨#[]⟩ 3 (value_cat_not s0 s1 hs0 hs1 hfi) (by decide +kernel) (by decide +kernel) (txr_fair hs0 hs1))
        clear hfi
        go_wp2_with (first
          | ((with_reducible refine (HS.out s0 _).mono ?_); rintro e u1 ⟨rfl, hE1⟩)
          | ((with_reducible refine (HS.out s1 _).mono ?_); rintro e u2 ⟨rfl, hE2⟩; have S := TxS.init w u2 s0 s1 (hE1.trans hE2))
          | ((with_reducible refine (HO1.out _).mono ?_); rintro e v1 ⟨x1, rfl, t1, l1, hE⟩; replace S := S.ev hE)
          | ((with_reducible refine (HE1.out x1 _ _ _ _ _ _ _ _ t1 l1 S.c S.v).mono ?_); rintro e v1_ ⟨rfl, hE⟩; replace S := S.ev (hE.trans (Ev.alloc v1_ (.cells #[.int .i64 0, .int .i64 0, .string ⟨#[]⟩] 25))); have B1 := Boxed.new 0 0 ⟨#[]⟩ v1_)
          | ((with_reducible refine (HO2.out _).mono ?_); rintro e v2 ⟨x2, rfl, t2, l2, hE⟩; replace S := S.ev hE; replace B1 := B1.ev hE)
          | ((with_reducible refine (HE2.out x2 _ _ _ _ _ _ _ _ t2 l2 S.c S.v).mono ?_); rintro e v2_ ⟨rfl, hE⟩; replace S := S.ev (hE.trans (Ev.alloc v2_ (.cells #[.int .i64 1, .int .i64 (s0.size : Int), .string ⟨#[]⟩] 25))); replace B1 := B1.ev (hE.trans (Ev.alloc v2_ (.cells #[.int .i64 1, .int .i64 (s0.size : Int), .string ⟨#[]⟩] 25))); have B2 := Boxed.new 1 (s0.size : Int) ⟨#[]⟩ v2_)
          | ((with_reducible refine (HO3.out _).mono ?_); rintro e v3 ⟨x3, rfl, t3, l3, hE⟩; replace S := S.ev hE; replace B1 := B1.ev hE; replace B2 := B2.ev hE)
          | ((with_reducible refine (HE3.out x3 _ _ _ _ _ _ _ _ t3 l3 S.c S.v).mono ?_); rintro e v3_ ⟨rfl, hE⟩; replace S := S.ev (hE.trans (Ev.alloc v3_ (.cells #[.int .i64 1, .int .i64 ne, .string ⟨#[]⟩] 25))); replace B1 := B1.ev (hE.trans (Ev.alloc v3_ (.cells #[.int .i64 1, .int .i64 ne, .string ⟨#[]⟩] 25))); replace B2 := B2.ev (hE.trans (Ev.alloc v3_ (.cells #[.int .i64 1, .int .i64 ne, .string ⟨#[]⟩] 25))); have B3 := Boxed.new 1 ne ⟨#[]⟩ v3_)
          | ((with_reducible refine (HO4.out _).mono ?_); rintro e v4 ⟨x4, rfl, t4, l4, hE⟩; replace S := S.ev hE; replace B1 := B1.ev hE; replace B2 := B2.ev hE; replace B3 := B3.ev hE)
          | ((with_reducible refine (HE4.out x4 _ _ _ _ _ _ _ _ t4 l4 S.c S.v).mono ?_); rintro e v4_ ⟨rfl, hE⟩; replace S := S.ev (hE.trans (Ev.alloc v4_ (.cells #[.int .i64 1, .int .i64 nl, .string ⟨#[]⟩] 25))); replace B1 := B1.ev (hE.trans (Ev.alloc v4_ (.cells #[.int .i64 1, .int .i64 nl, .string ⟨#[]⟩] 25))); replace B2 := B2.ev (hE.trans (Ev.alloc v4_ (.cells #[.int .i64 1, .int .i64 nl, .string ⟨#[]⟩] 25))); replace B3 := B3.ev (hE.trans (Ev.alloc v4_ (.cells #[.int .i64 1, .int .i64 nl, .string ⟨#[]⟩] 25))); have B4 := Boxed.new 1 nl ⟨#[]⟩ v4_))
        generalize v1_.heap.size = p1 at *
        generalize v2_.heap.size = p2 at *
        generalize v3_.heap.size = p3 at *
        generalize v4_.heap.size = p4 at *
        refine wp_region_slots hmix [fun v _ => v = .int .i64 3, fun v _ => v = .bool false, fun v _ => v = .bool false, fun v _ => v = .bool true, fun v _ => v = .bool true, fun v _ => v = .bool false, fun v _ => v = .bool false, fun v _ => v = .int .i64 3, fun v _ => v = .bool true, fun v _ => v = .bool true, fun v _ => v = .bool true, fun v _ => v = .bool true, fun v _ => v = .bool false, fun v _ => v = .bool true, fun v _ => v = .bool true, fun _ _ => True, fun _ _ => True, fun _ _ => True, fun _ _ => True, fun _ _ => True, fun _ _ => True, fun v _ => v = .bool true, fun v _ => v = .bool true, fun v _ => v = .bool true, fun v _ => v = .int .i64 0, fun v _ => v = .bool true, fun v _ => v = .bool true, fun v _ => v = .bool true, fun v _ => v = vv 1 (s0.size : Int) ⟨#[]⟩, fun v _ => v = .string s0, fun v _ => v = .int .i64 (s0.size : Int), fun v _ => v = vv 1 (s0.size : Int) ⟨#[]⟩, fun v _ => v = .bool true, fun v _ => v = .bool true, fun v _ => v = .bool true, fun v _ => v = .int .i64 0, fun v _ => v = .bool true, fun v _ => v = .bool true, fun v _ => v = .bool true, fun v _ => v = .int .i64 0, fun v _ => v = .bool true, fun v _ => v = .bool true, fun v _ => v = .bool true, fun v _ => v = .pointer (some ⟨p3, 1, none⟩), fun v _ => v = .int .i64 ne, fun v _ => v = .bool (s0.toList == s1.toList), fun v _ => v = .string s0, fun v _ => v = .string s1, fun v _ => v = .bool (s0.toList == s1.toList), fun v _ => v = .bool true, fun v _ => v = .bool true, fun v _ => v = .bool true, fun v _ => v = .pointer (some ⟨p4, 1, none⟩), fun v _ => v = .int .i64 nl, fun v _ => v = .bool (Op.bytesLess s0.toList s1.toList), fun v _ => v = .string s0, fun v _ => v = .string s1, fun v _ => v = .bool (Op.bytesLess s0.toList s1.toList), fun v _ => v = .bool true, fun v _ => v = .bool true, fun v _ => v = .bool true, fun v _ => v = .bool true, fun v _ => v = .bool true, fun v _ => v = .bool true]
          131 rfl (by kernel_rfl) ⟨mono_eq _, mono_eq _, mono_eq _, mono_eq _, mono_eq _, mono_eq _, mono_eq _, mono_eq _, mono_eq _, mono_eq _, mono_eq _, mono_eq _, mono_eq _, mono_eq _, mono_eq _, mono_true, mono_true, mono_true, mono_true, mono_true, mono_true, mono_eq _, mono_eq _, mono_eq _, mono_eq _, mono_eq _, mono_eq _, mono_eq _, mono_eq _, mono_eq _, mono_eq _, mono_eq _, mono_eq _, mono_eq _, mono_eq _, mono_eq _, mono_eq _, mono_eq _, mono_eq _, mono_eq _, mono_eq _, mono_eq _, mono_eq _, mono_eq _, mono_eq _, mono_eq _, mono_eq _, mono_eq _, mono_eq _, mono_eq _, mono_eq _, mono_eq _, mono_eq _, mono_eq _, mono_eq _, mono_eq _, mono_eq _, mono_eq _, mono_eq _, mono_eq _, mono_eq _, mono_eq _, mono_eq _, mono_eq _, trivial⟩ ?_ ?_
        · refine ops_cons 0 ?_ (ops_cons 1 ?_ (ops_cons 2 ?_ (ops_cons 3 ?_ (ops_cons 4 ?_ (ops_cons 5 ?_ (ops_cons 6 ?_ (ops_cons 7 ?_ (ops_cons 8 ?_ (ops_cons 9 ?_ (ops_cons 10 ?_ (ops_cons 11 ?_ (ops_cons 12 ?_ (ops_cons 13 ?_ (ops_cons 14 ?_ (ops_cons 15 ?_ (ops_cons 16 ?_ (ops_cons 17 ?_ (ops_cons 18 ?_ (ops_cons 19 ?_ (ops_cons 20 ?_ (ops_cons 21 ?_ (ops_cons 22 ?_ (ops_cons 23 ?_ (ops_cons 24 ?_ (ops_cons 25 ?_ (ops_cons 26 ?_ (ops_cons 27 ?_ (ops_cons 28 ?_ (ops_cons 29 ?_ (ops_cons 30 ?_ (ops_cons 31 ?_ (ops_cons 32 ?_ (ops_cons 33 ?_ (ops_cons 34 ?_ (ops_cons 35 ?_ (ops_cons 36 ?_ (ops_cons 37 ?_ (ops_cons 38 ?_ (ops_cons 39 ?_ (ops_cons 40 ?_ (ops_cons 41 ?_ (ops_cons 42 ?_ (ops_cons 43 ?_ (ops_cons 44 ?_ (ops_cons 45 ?_ (ops_cons 46 ?_ (ops_cons 47 ?_ (ops_cons 48 ?_ (ops_cons 49 ?_ (ops_cons 50 ?_ (ops_cons 51 ?_ (ops_cons 52 ?_ (ops_cons 53 ?_ (ops_cons 54 ?_ (ops_cons 55 ?_ (ops_cons 56 ?_ (ops_cons 57 ?_ (ops_cons 58 ?_ (ops_cons 59 ?_ (ops_cons 60 ?_ (ops_cons 61 ?_ (ops_cons 62 ?_ (ops_cons 63 ?_ (ops_nil 64))))))))))))))))))))))))))))))))))))))))))))))))))))))))))))))))
          · refine op_value fun a w c => ⟨(wanted_plain rfl), _, run_move _ rfl w, (c.was 8 (by kernel_rfl) rfl)⟩
          · refine op_value fun a w c => ⟨(wanted_plain rfl), .bool false, ?_, rfl⟩
            have e68 : a.eval (.tmp 68) = .int .i64 3 := (c.new 0 68 (by kernel_rfl) (by kernel_rfl))
            have kc0 : a.eval (.const (.int .i64 0)) = .int .i64 0 := rfl
            generalize a.eval = ρ at e68 kc0 ⊢
            simp [execOp, e68, kc0, go_sem]
          · refine op_value fun a w c => ⟨(wanted_plain rfl), _, run_move _ rfl w, (c.was 15 (by kernel_rfl) rfl)⟩
          · refine op_value fun a w c => ⟨(wanted_plain rfl), .bool true, ?_, rfl⟩
            have e69 : a.eval (.tmp 69) = .bool false := (c.new 1 69 (by kernel_rfl) (by kernel_rfl))
            have e70 : a.eval (.tmp 70) = .bool false := (c.new 2 70 (by kernel_rfl) (by kernel_rfl))
            generalize a.eval = ρ at e69 e70 ⊢
            simp [execOp, e69, e70, go_sem]
          · refine op_value fun a w c => ⟨(wanted_plain rfl), _, run_move _ rfl w, (c.new 3 71 (by kernel_rfl) (by kernel_rfl))⟩
          · refine op_value fun a w c => ⟨(wanted_yes rfl (by kernel_rfl) (c.new 4 72 (by kernel_rfl) (by kernel_rfl))), _, run_move _ rfl w, (c.was 15 (by kernel_rfl) rfl)⟩
          · refine op_value fun a w c => ⟨(wanted_yes rfl (by kernel_rfl) (c.new 4 72 (by kernel_rfl) (by kernel_rfl))), _, run_move _ rfl w, (c.new 5 73 (by kernel_rfl) (by kernel_rfl))⟩
          · refine op_value fun a w c => ⟨(wanted_yes rfl (by kernel_rfl) (c.new 6 74 (by kernel_rfl) (by kernel_rfl))), _, run_move _ rfl w, (c.was 8 (by kernel_rfl) rfl)⟩
          · refine op_value fun a w c => ⟨(wanted_yes rfl (by kernel_rfl) (c.new 6 74 (by kernel_rfl) (by kernel_rfl))), .bool true, ?_, rfl⟩
            have e75 : a.eval (.tmp 75) = .int .i64 3 := (c.new 7 75 (by kernel_rfl) (by kernel_rfl))
            have kc0 : a.eval (.const (.int .i64 3)) = .int .i64 3 := rfl
            generalize a.eval = ρ at e75 kc0 ⊢
            simp [execOp, e75, kc0, go_sem]
          · refine op_value fun a w c => ⟨(wanted_yes rfl (by kernel_rfl) (c.new 4 72 (by kernel_rfl) (by kernel_rfl))), _, run_pick_false rfl (c.new 6 74 (by kernel_rfl) (by kernel_rfl)) w, (c.new 8 76 (by kernel_rfl) (by kernel_rfl))⟩
          · refine op_value fun a w c => ⟨(wanted_plain rfl), _, run_pick_true rfl (c.new 4 72 (by kernel_rfl) (by kernel_rfl)) w, (c.new 9 77 (by kernel_rfl) (by kernel_rfl))⟩
          · refine op_value fun a w c => ⟨(wanted_plain rfl), _, run_move _ rfl w, (c.new 10 78 (by kernel_rfl) (by kernel_rfl))⟩
          · refine op_value fun a w c => ⟨(wanted_yes rfl (by kernel_rfl) (c.new 11 79 (by kernel_rfl) (by kernel_rfl))), _, run_move _ rfl w, (c.was 15 (by kernel_rfl) rfl)⟩
          · refine op_value fun a w c => ⟨(wanted_yes rfl (by kernel_rfl) (c.new 11 79 (by kernel_rfl) (by kernel_rfl))), .bool true, ?_, rfl⟩
            have e80 : a.eval (.tmp 80) = .bool false := (c.new 12 80 (by kernel_rfl) (by kernel_rfl))
            generalize a.eval = ρ at e80 ⊢
            simp [execOp, e80, go_sem]
          · refine op_value fun a w c => ⟨(wanted_yes rfl (by kernel_rfl) (c.new 11 79 (by kernel_rfl) (by kernel_rfl))), _, run_move _ rfl w, (c.new 13 81 (by kernel_rfl) (by kernel_rfl))⟩
          · refine op_skip fun a w c => ⟨(wanted_no rfl (by kernel_rfl) (c.new 14 82 (by kernel_rfl) (by kernel_rfl)) (by decide)), trivial⟩
          · refine op_skip fun a w c => ⟨(wanted_no rfl (by kernel_rfl) (c.new 14 82 (by kernel_rfl) (by kernel_rfl)) (by decide)), trivial⟩
          · refine op_skip fun a w c => ⟨(wanted_no rfl (by kernel_rfl) (c.new 14 82 (by kernel_rfl) (by kernel_rfl)) (by decide)), trivial⟩
          · refine op_skip fun a w c => ⟨(wanted_no rfl (by kernel_rfl) (c.new 14 82 (by kernel_rfl) (by kernel_rfl)) (by decide)), trivial⟩
          · refine op_skip fun a w c => ⟨(wanted_no rfl (by kernel_rfl) (c.new 14 82 (by kernel_rfl) (by kernel_rfl)) (by decide)), trivial⟩
          · refine op_skip fun a w c => ⟨(wanted_no rfl (by kernel_rfl) (c.new 14 82 (by kernel_rfl) (by kernel_rfl)) (by decide)), trivial⟩
          · refine op_value fun a w c => ⟨(wanted_yes rfl (by kernel_rfl) (c.new 11 79 (by kernel_rfl) (by kernel_rfl))), _, run_pick_true rfl (c.new 14 82 (by kernel_rfl) (by kernel_rfl)) w, (evc a _)⟩
          · refine op_value fun a w c => ⟨(wanted_plain rfl), _, run_pick_true rfl (c.new 11 79 (by kernel_rfl) (by kernel_rfl)) w, (c.new 21 89 (by kernel_rfl) (by kernel_rfl))⟩
          · refine op_value fun a w c => ⟨(wanted_plain rfl), _, run_move _ rfl w, (c.new 22 90 (by kernel_rfl) (by kernel_rfl))⟩
          · refine op_value fun a w c => ⟨(wanted_yes rfl (by kernel_rfl) (c.new 23 91 (by kernel_rfl) (by kernel_rfl))), _, run_move _ rfl w, (c.was 10 (by kernel_rfl) rfl)⟩
          · refine op_value fun a w c => ⟨(wanted_yes rfl (by kernel_rfl) (c.new 23 91 (by kernel_rfl) (by kernel_rfl))), .bool true, ?_, rfl⟩
            have e92 : a.eval (.tmp 92) = .int .i64 0 := (c.new 24 92 (by kernel_rfl) (by kernel_rfl))
            have kc0 : a.eval (.const (.int .i64 0)) = .int .i64 0 := rfl
            generalize a.eval = ρ at e92 kc0 ⊢
            simp [execOp, e92, kc0, go_sem]
          · refine op_value fun a w c => ⟨(wanted_plain rfl), _, run_pick_true rfl (c.new 23 91 (by kernel_rfl) (by kernel_rfl)) w, (c.new 25 93 (by kernel_rfl) (by kernel_rfl))⟩
          · refine op_value fun a w c => ⟨(wanted_plain rfl), _, run_move _ rfl w, (c.new 26 94 (by kernel_rfl) (by kernel_rfl))⟩
          · refine op_value fun a w c => ⟨(wanted_yes rfl (by kernel_rfl) (c.new 27 95 (by kernel_rfl) (by kernel_rfl))), _, run_load_val rfl ((c.was 9 (by kernel_rfl) rfl) : a.eval (.tmp 9) = .pointer (some ⟨p2, 0, none⟩)) (B2.ev c.ev), rfl⟩
          · refine op_value fun a w c => ⟨(wanted_yes rfl (by kernel_rfl) (c.new 27 95 (by kernel_rfl) (by kernel_rfl))), _, run_move _ rfl w, (c.was 0 (by kernel_rfl) rfl)⟩
          · refine op_value fun a w c => ⟨(wanted_yes rfl (by kernel_rfl) (c.new 27 95 (by kernel_rfl) (by kernel_rfl))), .int .i64 (s0.size : Int), ?_, rfl⟩
            have e97 : a.eval (.tmp 97) = .string s0 := (c.new 29 97 (by kernel_rfl) (by kernel_rfl))
            generalize a.eval = ρ at e97 ⊢
            simp [e97, go_sem]
          · refine op_call fun a w c => ⟨(wanted_yes rfl (by kernel_rfl) (c.new 27 95 (by kernel_rfl) (by kernel_rfl))), 10, #[.int .i64 (s0.size : Int)], ?_, ?_⟩
            · rw [run_call 10 _ _ rfl (by kernel_rfl)]
              have e98 : a.eval (.tmp 98) = .int .i64 (s0.size : Int) := (c.new 30 98 (by kernel_rfl) (by kernel_rfl))
              simp [e98]
            · refine (HK.out (s0.size : Int) w).mono ?_
              rintro e w2 ⟨rfl, hE⟩
              exact ⟨_, rfl, hE, rfl⟩
          · refine op_value fun a w c => ⟨(wanted_yes rfl (by kernel_rfl) (c.new 27 95 (by kernel_rfl) (by kernel_rfl))), _, op_eq_val rfl ((c.new 28 96 (by kernel_rfl) (by kernel_rfl)) : a.eval (.tmp 96) = vv 1 (s0.size : Int) ⟨#[]⟩) ((c.new 31 99 (by kernel_rfl) (by kernel_rfl)) : a.eval (.tmp 99) = vv 1 (s0.size : Int) ⟨#[]⟩), congrArg Value.bool (sameV_self _ _ _)⟩
          · refine op_value fun a w c => ⟨(wanted_plain rfl), _, run_pick_true rfl (c.new 27 95 (by kernel_rfl) (by kernel_rfl)) w, (c.new 32 100 (by kernel_rfl) (by kernel_rfl))⟩
          · refine op_value fun a w c => ⟨(wanted_plain rfl), _, run_move _ rfl w, (c.new 33 101 (by kernel_rfl) (by kernel_rfl))⟩
          · refine op_value fun a w c => ⟨(wanted_yes rfl (by kernel_rfl) (c.new 34 102 (by kernel_rfl) (by kernel_rfl))), _, run_move _ rfl w, (c.was 12 (by kernel_rfl) rfl)⟩
          · refine op_value fun a w c => ⟨(wanted_yes rfl (by kernel_rfl) (c.new 34 102 (by kernel_rfl) (by kernel_rfl))), .bool true, ?_, rfl⟩
            have e103 : a.eval (.tmp 103) = .int .i64 0 := (c.new 35 103 (by kernel_rfl) (by kernel_rfl))
            have kc0 : a.eval (.const (.int .i64 0)) = .int .i64 0 := rfl
            generalize a.eval = ρ at e103 kc0 ⊢
            simp [execOp, e103, kc0, go_sem]
          · refine op_value fun a w c => ⟨(wanted_plain rfl), _, run_pick_true rfl (c.new 34 102 (by kernel_rfl) (by kernel_rfl)) w, (c.new 36 104 (by kernel_rfl) (by kernel_rfl))⟩
          · refine op_value fun a w c => ⟨(wanted_plain rfl), _, run_move _ rfl w, (c.new 37 105 (by kernel_rfl) (by kernel_rfl))⟩
          · refine op_value fun a w c => ⟨(wanted_yes rfl (by kernel_rfl) (c.new 38 106 (by kernel_rfl) (by kernel_rfl))), _, run_move _ rfl w, (c.was 14 (by kernel_rfl) rfl)⟩
          · refine op_value fun a w c => ⟨(wanted_yes rfl (by kernel_rfl) (c.new 38 106 (by kernel_rfl) (by kernel_rfl))), .bool true, ?_, rfl⟩
            have e107 : a.eval (.tmp 107) = .int .i64 0 := (c.new 39 107 (by kernel_rfl) (by kernel_rfl))
            have kc0 : a.eval (.const (.int .i64 0)) = .int .i64 0 := rfl
            generalize a.eval = ρ at e107 kc0 ⊢
            simp [execOp, e107, kc0, go_sem]
          · refine op_value fun a w c => ⟨(wanted_plain rfl), _, run_pick_true rfl (c.new 38 106 (by kernel_rfl) (by kernel_rfl)) w, (c.new 40 108 (by kernel_rfl) (by kernel_rfl))⟩
          · refine op_value fun a w c => ⟨(wanted_plain rfl), _, run_move _ rfl w, (c.new 41 109 (by kernel_rfl) (by kernel_rfl))⟩
          · refine op_value fun a w c => ⟨(wanted_yes rfl (by kernel_rfl) (c.new 42 110 (by kernel_rfl) (by kernel_rfl))), .pointer (some ⟨p3, 1, none⟩), ?_, rfl⟩
            have e11 : a.eval (.tmp 11) = .pointer (some ⟨p3, 0, none⟩) := (c.was 11 (by kernel_rfl) rfl)
            generalize a.eval = ρ at e11 ⊢
            simp [execOp, e11, go_sem]
          · refine op_value fun a w c => ⟨(wanted_yes rfl (by kernel_rfl) (c.new 42 110 (by kernel_rfl) (by kernel_rfl))), .int .i64 ne, ?_, rfl⟩
            have e111 : a.eval (.tmp 111) = .pointer (some ⟨p3, 1, none⟩) := (c.new 43 111 (by kernel_rfl) (by kernel_rfl))
            have hc := (c.ev.cell (p := ⟨_, _, none⟩) B3.lt).trans B3.c1
            generalize a.eval = ρ at e111 ⊢
            simp [execOp, e111, hc, go_sem]
          · refine op_value fun a w c => ⟨(wanted_yes rfl (by kernel_rfl) (c.new 42 110 (by kernel_rfl) (by kernel_rfl))), .bool (s0.toList == s1.toList), ?_, rfl⟩
            have e112 : a.eval (.tmp 112) = .int .i64 ne := (c.new 44 112 (by kernel_rfl) (by kernel_rfl))
            have kc0 : a.eval (.const (.int .i64 1)) = .int .i64 1 := rfl
            generalize a.eval = ρ at e112 kc0 ⊢
            simp [execOp, e112, kc0, go_sem, hne]
          · refine op_value fun a w c => ⟨(wanted_yes rfl (by kernel_rfl) (c.new 42 110 (by kernel_rfl) (by kernel_rfl))), _, run_move _ rfl w, (c.was 0 (by kernel_rfl) rfl)⟩
          · refine op_value fun a w c => ⟨(wanted_yes rfl (by kernel_rfl) (c.new 42 110 (by kernel_rfl) (by kernel_rfl))), _, run_move _ rfl w, (c.was 1 (by kernel_rfl) rfl)⟩
          · refine op_value fun a w c => ⟨(wanted_yes rfl (by kernel_rfl) (c.new 42 110 (by kernel_rfl) (by kernel_rfl))), .bool (s0.toList == s1.toList), ?_, rfl⟩
            have e114 : a.eval (.tmp 114) = .string s0 := (c.new 46 114 (by kernel_rfl) (by kernel_rfl))
            have e115 : a.eval (.tmp 115) = .string s1 := (c.new 47 115 (by kernel_rfl) (by kernel_rfl))
            generalize a.eval = ρ at e114 e115 ⊢
            simp [execOp, e114, e115, go_sem]
          · refine op_value fun a w c => ⟨(wanted_yes rfl (by kernel_rfl) (c.new 42 110 (by kernel_rfl) (by kernel_rfl))), .bool true, ?_, rfl⟩
            have e113 : a.eval (.tmp 113) = .bool (s0.toList == s1.toList) := (c.new 45 113 (by kernel_rfl) (by kernel_rfl))
            have e116 : a.eval (.tmp 116) = .bool (s0.toList == s1.toList) := (c.new 48 116 (by kernel_rfl) (by kernel_rfl))
            generalize a.eval = ρ at e113 e116 ⊢
            simp [execOp, e113, e116, go_sem]
          · refine op_value fun a w c => ⟨(wanted_plain rfl), _, run_pick_true rfl (c.new 42 110 (by kernel_rfl) (by kernel_rfl)) w, (c.new 49 117 (by kernel_rfl) (by kernel_rfl))⟩
          · refine op_value fun a w c => ⟨(wanted_plain rfl), _, run_move _ rfl w, (c.new 50 118 (by kernel_rfl) (by kernel_rfl))⟩
          · refine op_value fun a w c => ⟨(wanted_yes rfl (by kernel_rfl) (c.new 51 119 (by kernel_rfl) (by kernel_rfl))), .pointer (some ⟨p4, 1, none⟩), ?_, rfl⟩
            have e13 : a.eval (.tmp 13) = .pointer (some ⟨p4, 0, none⟩) := (c.was 13 (by kernel_rfl) rfl)
            generalize a.eval = ρ at e13 ⊢
            simp [execOp, e13, go_sem]
          · refine op_value fun a w c => ⟨(wanted_yes rfl (by kernel_rfl) (c.new 51 119 (by kernel_rfl) (by kernel_rfl))), .int .i64 nl, ?_, rfl⟩
            have e120 : a.eval (.tmp 120) = .pointer (some ⟨p4, 1, none⟩) := (c.new 52 120 (by kernel_rfl) (by kernel_rfl))
            have hc := (c.ev.cell (p := ⟨_, _, none⟩) B4.lt).trans B4.c1
            generalize a.eval = ρ at e120 ⊢
            simp [execOp, e120, hc, go_sem]
          · refine op_value fun a w c => ⟨(wanted_yes rfl (by kernel_rfl) (c.new 51 119 (by kernel_rfl) (by kernel_rfl))), .bool (Op.bytesLess s0.toList s1.toList), ?_, rfl⟩
            have e121 : a.eval (.tmp 121) = .int .i64 nl := (c.new 53 121 (by kernel_rfl) (by kernel_rfl))
            have kc0 : a.eval (.const (.int .i64 1)) = .int .i64 1 := rfl
            generalize a.eval = ρ at e121 kc0 ⊢
            simp [execOp, e121, kc0, go_sem, hnl]
          · refine op_value fun a w c => ⟨(wanted_yes rfl (by kernel_rfl) (c.new 51 119 (by kernel_rfl) (by kernel_rfl))), _, run_move _ rfl w, (c.was 0 (by kernel_rfl) rfl)⟩
          · refine op_value fun a w c => ⟨(wanted_yes rfl (by kernel_rfl) (c.new 51 119 (by kernel_rfl) (by kernel_rfl))), _, run_move _ rfl w, (c.was 1 (by kernel_rfl) rfl)⟩
          · refine op_value fun a w c => ⟨(wanted_yes rfl (by kernel_rfl) (c.new 51 119 (by kernel_rfl) (by kernel_rfl))), .bool (Op.bytesLess s0.toList s1.toList), ?_, rfl⟩
            have e123 : a.eval (.tmp 123) = .string s0 := (c.new 55 123 (by kernel_rfl) (by kernel_rfl))
            have e124 : a.eval (.tmp 124) = .string s1 := (c.new 56 124 (by kernel_rfl) (by kernel_rfl))
            generalize a.eval = ρ at e123 e124 ⊢
            simp [execOp, e123, e124, go_sem]
          · refine op_value fun a w c => ⟨(wanted_yes rfl (by kernel_rfl) (c.new 51 119 (by kernel_rfl) (by kernel_rfl))), .bool true, ?_, rfl⟩
            have e122 : a.eval (.tmp 122) = .bool (Op.bytesLess s0.toList s1.toList) := (c.new 54 122 (by kernel_rfl) (by kernel_rfl))
            have e125 : a.eval (.tmp 125) = .bool (Op.bytesLess s0.toList s1.toList) := (c.new 57 125 (by kernel_rfl) (by kernel_rfl))
            generalize a.eval = ρ at e122 e125 ⊢
            simp [execOp, e122, e125, go_sem]
          · refine op_value fun a w c => ⟨(wanted_plain rfl), _, run_pick_true rfl (c.new 51 119 (by kernel_rfl) (by kernel_rfl)) w, (c.new 58 126 (by kernel_rfl) (by kernel_rfl))⟩
          · refine op_value fun a w c => ⟨(wanted_plain rfl), _, run_move _ rfl w, (c.new 59 127 (by kernel_rfl) (by kernel_rfl))⟩
          · refine op_call fun a w c => ⟨(wanted_yes rfl (by kernel_rfl) (c.new 60 128 (by kernel_rfl) (by kernel_rfl))), 25, #[], ?_, ?_⟩
            · rw [run_call 25 _ _ rfl (by kernel_rfl)]
              simp
            · refine (HKn.out w).mono ?_
              rintro e w2 ⟨rfl, hE⟩
              exact ⟨_, rfl, hE, rfl⟩
          · refine op_value fun a w c => ⟨(wanted_plain rfl), _, run_pick_true rfl (c.new 60 128 (by kernel_rfl) (by kernel_rfl)) w, (c.new 61 129 (by kernel_rfl) (by kernel_rfl))⟩
          · refine op_value fun a w c => ⟨(wanted_plain rfl), _, run_assign _ rfl w, (c.new 62 130 (by kernel_rfl) (by kernel_rfl))⟩
        intro sl wr hEr hold hnew
        have f0 : sl 0 = .string s0 := hold 0 (by kernel_rfl)
        have f1 : sl 1 = .string s1 := hold 1 (by kernel_rfl)
        have f7 : sl 7 = .pointer (some ⟨p1, 0, none⟩) := hold 7 (by kernel_rfl)
        have f8 : sl 8 = .int .i64 3 := hold 8 (by kernel_rfl)
        have f9 : sl 9 = .pointer (some ⟨p2, 0, none⟩) := hold 9 (by kernel_rfl)
        have f10 : sl 10 = .int .i64 0 := hold 10 (by kernel_rfl)
        have f11 : sl 11 = .pointer (some ⟨p3, 0, none⟩) := hold 11 (by kernel_rfl)
        have f12 : sl 12 = .int .i64 0 := hold 12 (by kernel_rfl)
        have f13 : sl 13 = .pointer (some ⟨p4, 0, none⟩) := hold 13 (by kernel_rfl)
        have f14 : sl 14 = .int .i64 0 := hold 14 (by kernel_rfl)
        have f15 : sl 15 = .bool false := hold 15 (by kernel_rfl)
        have f4 : sl 4 = .bool true := hnew 63 4 (by kernel_rfl)
        have f68 : sl 68 = .int .i64 3 := hnew 0 68 (by kernel_rfl)
        have f69 : sl 69 = .bool false := hnew 1 69 (by kernel_rfl)
        have f70 : sl 70 = .bool false := hnew 2 70 (by kernel_rfl)
        have f71 : sl 71 = .bool true := hnew 3 71 (by kernel_rfl)
        have f72 : sl 72 = .bool true := hnew 4 72 (by kernel_rfl)
        have f73 : sl 73 = .bool false := hnew 5 73 (by kernel_rfl)
        have f74 : sl 74 = .bool false := hnew 6 74 (by kernel_rfl)
        have f75 : sl 75 = .int .i64 3 := hnew 7 75 (by kernel_rfl)
        have f76 : sl 76 = .bool true := hnew 8 76 (by kernel_rfl)
        have f77 : sl 77 = .bool true := hnew 9 77 (by kernel_rfl)
        have f78 : sl 78 = .bool true := hnew 10 78 (by kernel_rfl)
        have f79 : sl 79 = .bool true := hnew 11 79 (by kernel_rfl)
        have f80 : sl 80 = .bool false := hnew 12 80 (by kernel_rfl)
        have f81 : sl 81 = .bool true := hnew 13 81 (by kernel_rfl)
        have f82 : sl 82 = .bool true := hnew 14 82 (by kernel_rfl)
        have f89 : sl 89 = .bool true := hnew 21 89 (by kernel_rfl)
        have f90 : sl 90 = .bool true := hnew 22 90 (by kernel_rfl)
        have f91 : sl 91 = .bool true := hnew 23 91 (by kernel_rfl)
        have f92 : sl 92 = .int .i64 0 := hnew 24 92 (by kernel_rfl)
        have f93 : sl 93 = .bool true := hnew 25 93 (by kernel_rfl)
        have f94 : sl 94 = .bool true := hnew 26 94 (by kernel_rfl)
        have f95 : sl 95 = .bool true := hnew 27 95 (by kernel_rfl)
        have f96 : sl 96 = vv 1 (s0.size : Int) ⟨#[]⟩ := hnew 28 96 (by kernel_rfl)
        have f97 : sl 97 = .string s0 := hnew 29 97 (by kernel_rfl)
        have f98 : sl 98 = .int .i64 (s0.size : Int) := hnew 30 98 (by kernel_rfl)
        have f99 : sl 99 = vv 1 (s0.size : Int) ⟨#[]⟩ := hnew 31 99 (by kernel_rfl)
        have f100 : sl 100 = .bool true := hnew 32 100 (by kernel_rfl)
        have f101 : sl 101 = .bool true := hnew 33 101 (by kernel_rfl)
        have f102 : sl 102 = .bool true := hnew 34 102 (by kernel_rfl)
        have f103 : sl 103 = .int .i64 0 := hnew 35 103 (by kernel_rfl)
        have f104 : sl 104 = .bool true := hnew 36 104 (by kernel_rfl)
        have f105 : sl 105 = .bool true := hnew 37 105 (by kernel_rfl)
        have f106 : sl 106 = .bool true := hnew 38 106 (by kernel_rfl)
        have f107 : sl 107 = .int .i64 0 := hnew 39 107 (by kernel_rfl)
        have f108 : sl 108 = .bool true := hnew 40 108 (by kernel_rfl)
        have f109 : sl 109 = .bool true := hnew 41 109 (by kernel_rfl)
        have f110 : sl 110 = .bool true := hnew 42 110 (by kernel_rfl)
        have f111 : sl 111 = .pointer (some ⟨p3, 1, none⟩) := hnew 43 111 (by kernel_rfl)
        have f112 : sl 112 = .int .i64 ne := hnew 44 112 (by kernel_rfl)
        have f113 : sl 113 = .bool (s0.toList == s1.toList) := hnew 45 113 (by kernel_rfl)
        have f114 : sl 114 = .string s0 := hnew 46 114 (by kernel_rfl)
        have f115 : sl 115 = .string s1 := hnew 47 115 (by kernel_rfl)
        have f116 : sl 116 = .bool (s0.toList == s1.toList) := hnew 48 116 (by kernel_rfl)
        have f117 : sl 117 = .bool true := hnew 49 117 (by kernel_rfl)
        have f118 : sl 118 = .bool true := hnew 50 118 (by kernel_rfl)
        have f119 : sl 119 = .bool true := hnew 51 119 (by kernel_rfl)
        have f120 : sl 120 = .pointer (some ⟨p4, 1, none⟩) := hnew 52 120 (by kernel_rfl)
        have f121 : sl 121 = .int .i64 nl := hnew 53 121 (by kernel_rfl)
        have f122 : sl 122 = .bool (Op.bytesLess s0.toList s1.toList) := hnew 54 122 (by kernel_rfl)
        have f123 : sl 123 = .string s0 := hnew 55 123 (by kernel_rfl)
        have f124 : sl 124 = .string s1 := hnew 56 124 (by kernel_rfl)
        have f125 : sl 125 = .bool (Op.bytesLess s0.toList s1.toList) := hnew 57 125 (by kernel_rfl)
        have f126 : sl 126 = .bool true := hnew 58 126 (by kernel_rfl)
        have f127 : sl 127 = .bool true := hnew 59 127 (by kernel_rfl)
        have f128 : sl 128 = .bool true := hnew 60 128 (by kernel_rfl)
        have f129 : sl 129 = .bool true := hnew 61 129 (by kernel_rfl)
        have f130 : sl 130 = .bool true := hnew 62 130 (by kernel_rfl)
        change Exit.then _ _ .normal ⟨#[sl 0, sl 1, sl 2, sl 3, sl 4, sl 5, sl 6, sl 7, sl 8, sl 9, sl 10, sl 11, sl 12, sl 13, sl 14, sl 15, sl 16, sl 17, sl 18, sl 19, sl 20, sl 21, sl 22, sl 23, sl 24, sl 25, sl 26, sl 27, sl 28, sl 29, sl 30, sl 31, sl 32, sl 33, sl 34, sl 35, sl 36, sl 37, sl 38, sl 39, sl 40, sl 41, sl 42, sl 43, sl 44, sl 45, sl 46, sl 47, sl 48, sl 49, sl 50, sl 51, sl 52, sl 53, sl 54, sl 55, sl 56, sl 57, sl 58, sl 59, sl 60, sl 61, sl 62, sl 63, sl 64, sl 65, sl 66, sl 67, sl 68, sl 69, sl 70, sl 71, sl 72, sl 73, sl 74, sl 75, sl 76, sl 77, sl 78, sl 79, sl 80, sl 81, sl 82, sl 83, sl 84, sl 85, sl 86, sl 87, sl 88, sl 89, sl 90, sl 91, sl 92, sl 93, sl 94, sl 95, sl 96, sl 97, sl 98, sl 99, sl 100, sl 101, sl 102, sl 103, sl 104, sl 105, sl 106, sl 107, sl 108, sl 109, sl 110, sl 111, sl 112, sl 113, sl 114, sl 115, sl 116, sl 117, sl 118, sl 119, sl 120, sl 121, sl 122, sl 123, sl 124, sl 125, sl 126, sl 127, sl 128, sl 129, sl 130], _⟩ _
        simp only [f0, f1, f7, f8, f9, f10, f11, f12, f13, f14, f15, f4, f68, f69, f70, f71, f72, f73, f74, f75, f76, f77, f78, f79, f80, f81, f82, f89, f90, f91, f92, f93, f94, f95, f96, f97, f98, f99, f100, f101, f102, f103, f104, f105, f106, f107, f108, f109, f110, f111, f112, f113, f114, f115, f116, f117, f118, f119, f120, f121, f122, f123, f124, f125, f126, f127, f128, f129, f130]
        clear hold hnew
        go_wp2
        go_ret
        exact ⟨rfl, S.all.trans hEr⟩
end Go.Proofs.Ytiiogjpgeginlaa
