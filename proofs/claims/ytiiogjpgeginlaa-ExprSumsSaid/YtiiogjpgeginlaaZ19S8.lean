/-
  Texts that belong together: The law's own reading of a text: of. The fixed texts of the laws, read. The columns that the laws ask; what the fixed expressions are worth. Chapter 8's runs ('known'); Eval and Type of an expression that is known.
-/
import Derived.Test.YtiiogjpgeginlaaZ18S8
import Derived.Test.YtiiogjpgeginlaaZ17S8
import Derived.KernelRfl
import Derived.Test.YtiiogjpgeginlaaZ8S8
import Derived.Test.YtiiogjpgeginlaaZ16S8
import Derived.Test.YtiiogjpgeginlaaZ5S8
import Derived.Test.YtiiogjpgeginlaaZ0S8
namespace Go.Proofs.Ytiiogjpgeginlaa
open Go.RowKit
set_option linter.unusedVariables false

/-- The expression of a text. -/
def xOf (s : By) : T := (xRead (rfRead s).1).1
/-- What comes back is an expression, in new memory. -/
def OfOut (t : T) (w : World) (e : Ending) (w' : World) : Prop := ∃ x : M, e = .returned (ev_ x) ∧ x.t = t ∧ Lx w.heap.size [] w' x ∧ Ev w w'

set_option maxRecDepth 100000 in
set_option maxHeartbeats 1600000 in
theorem law8_of (s : ByteArray) (w : World) (hs : s.size ≤ 100000) (hf : (rfRead s.data.toList).1.every fairB = true) (hz : (rfRead s.data.toList).1.size ≤ 100000) :
    Calls Try.prog 21 #[.string s] w (OfOut (xOf s.data.toList) w) := by
  have HR := Lib.hid (fun w1 => rf_read s w1 hs)
  have hx := (fun (m : M) w1 (hm : m.t = (rfRead s.data.toList).1) (hL : Lies w.heap.size [] w1 m) => rx_read m.dep m w.heap.size w1 (Nat.le_refl _) hL (hm ▸ hf) (hm ▸ hz))
  unfold mv M.kv at hx
  have HX := Lib.hid hx
  clear hx
  have hE0 := Ev.alloc w (.cells #[.int .i64 0, .string ⟨#[]⟩, .int .i64 0, .slice none 0 0] 39)
  have hB := Bx.new 39 #[.int .i64 0, .string ⟨#[]⟩, .int .i64 0, .slice none 0 0] w
  obtain ⟨w0, hw0⟩ : ∃ w0, w.alloc (.cells #[.int .i64 0, .string ⟨#[]⟩, .int .i64 0, .slice none 0 0] 39) = w0 := ⟨_, rfl⟩
  rw [hw0] at hE0 hB
  have HE := Lib.hid hE0
  have HB := Lib.hid hB
  have hlt := hB.lt
  clear hE0 hB hf hz
  go_enter Try.func21, Try.ntmps21
  go_wp2_with (first
    | ((with_reducible refine (HR.out _).mono ?_); rintro e w1 ⟨m, rfl, hmt, hml, hE1⟩; have HMT := Lib.hid hmt; have HML := Lib.hid (hml.low (by omega) : Lies w.heap.size [] w1 m); have HE1 := Lib.hid hE1; clear hmt hml)
    | ((with_reducible refine (HX.out m _ HMT.out (HML.out.ev (Ev.alloc w1 _))).mono ?_); rintro e w2 ⟨x, rfl, hxt, hxl, hE2⟩; have E2 := (HE.out.trans HE1.out).trans ((Ev.alloc w1 _).trans hE2); have B2 := HB.out.ev ((HE1.out.trans ((Ev.alloc w1 _).trans hE2)).trans (Ev.alloc w2 (.cells #[.int .i64 x.kind, .string ⟨x.s.toArray⟩, .int .i64 x.n, .slice x.A x.kids.length x.cap] 39))); obtain ⟨⟨c0, c1, c2, c3⟩, f0, f1, f2, f3⟩ := B2.four))
  have hsz : w.heap.size + 1 ≤ (w1.alloc (.cells #[.int .i64 m.kind, .string ⟨m.s.toArray⟩, .int .i64 m.n, .slice m.A m.kids.length m.cap, .int .i64 (m.pos : Int)] 34)).heap.size := by
    have h1 := HB.out.lt
    have h2 := HE1.out.size
    have h3 := (Ev.alloc w1 (.cells #[.int .i64 m.kind, .string ⟨m.s.toArray⟩, .int .i64 m.n, .slice m.A m.kids.length m.cap, .int .i64 (m.pos : Int)] 34)).size
    omega
  have HXL := Lib.hid ((hxl.low hsz).ev (Ev.alloc w2 (.cells #[.int .i64 x.kind, .string ⟨x.s.toArray⟩, .int .i64 x.n, .slice x.A x.kids.length x.cap] 39)))
  (try simp only [Exit.inBlock, Exit.then])
  rw [set4_fold]
  refine bodyPost_ret (results_cell1 rfl _ _ _ _ _ rfl (B2.set4 _ _ _ _) Try.underlying39 rfl Try.sizeExpr) rfl ?_
  refine ⟨x, rfl, by rw [hxt, HMT.out]; rfl, ?_, (E2.trans (Ev.alloc w2 _)).box (set4_but _ _ _ _ _ _) (Nat.le_refl _)⟩
  exact ((HXL.out.less (K' := [w.heap.size]) fun k hk => by simp at hk; exact .inr (.inl (by omega))).move (set4_but _ _ _ _ _ _) fun k hk => by cases hk).low (Nat.le_succ _)
end Go.Proofs.Ytiiogjpgeginlaa

namespace Go.Proofs.Ytiiogjpgeginlaa
open Go.RowKit
set_option linter.unusedVariables false

theorem xOf_add : xOf [40, 97, 100, 100, 32, 97, 32, 99, 41] = .mk 4 bAdd 0 [.mk 1 [97] 0 [] 0, .mk 1 [99] 0 [] 0] 0 := by kernel_rfl
theorem xOk_add : (rfRead [40, 97, 100, 100, 32, 97, 32, 99, 41]).1.every fairB = true ∧ (rfRead [40, 97, 100, 100, 32, 97, 32, 99, 41]).1.size ≤ 100000 := by decide +kernel
theorem xOf_sub : xOf [40, 115, 117, 98, 32, 97, 32, 99, 41] = .mk 4 bSub 0 [.mk 1 [97] 0 [] 0, .mk 1 [99] 0 [] 0] 0 := by kernel_rfl
theorem xOk_sub : (rfRead [40, 115, 117, 98, 32, 97, 32, 99, 41]).1.every fairB = true ∧ (rfRead [40, 115, 117, 98, 32, 97, 32, 99, 41]).1.size ≤ 100000 := by decide +kernel
theorem xOf_mul : xOf [40, 109, 117, 108, 32, 97, 32, 99, 41] = .mk 4 bMul 0 [.mk 1 [97] 0 [] 0, .mk 1 [99] 0 [] 0] 0 := by kernel_rfl
theorem xOk_mul : (rfRead [40, 109, 117, 108, 32, 97, 32, 99, 41]).1.every fairB = true ∧ (rfRead [40, 109, 117, 108, 32, 97, 32, 99, 41]).1.size ≤ 100000 := by decide +kernel
theorem xOf_if : xOf [40, 105, 102, 32, 40, 108, 116, 32, 97, 32, 48, 41, 32, 40, 110, 101, 103, 32, 97, 41, 32, 97, 41] = .mk 4 bIf 0 [.mk 4 bLt 0 [.mk 1 [97] 0 [] 0, .mk 2 [] 0 [] 0] 0, .mk 4 bNeg 0 [.mk 1 [97] 0 [] 0] 0, .mk 1 [97] 0 [] 0] 0 := by kernel_rfl
theorem xOk_if : (rfRead [40, 105, 102, 32, 40, 108, 116, 32, 97, 32, 48, 41, 32, 40, 110, 101, 103, 32, 97, 41, 32, 97, 41]).1.every fairB = true ∧ (rfRead [40, 105, 102, 32, 40, 108, 116, 32, 97, 32, 48, 41, 32, 40, 110, 101, 103, 32, 97, 41, 32, 97, 41]).1.size ≤ 100000 := by decide +kernel
theorem xOf_addx : xOf [40, 97, 100, 100, 32, 97, 32, 34, 120, 34, 41] = .mk 4 bAdd 0 [.mk 1 [97] 0 [] 0, .mk 3 [120] 0 [] 0] 0 := by kernel_rfl
theorem xOk_addx : (rfRead [40, 97, 100, 100, 32, 97, 32, 34, 120, 34, 41]).1.every fairB = true ∧ (rfRead [40, 97, 100, 100, 32, 97, 32, 34, 120, 34, 41]).1.size ≤ 100000 := by decide +kernel
theorem xOf_ifa : xOf [40, 105, 102, 32, 97, 32, 99, 32, 40, 97, 100, 100, 32, 57, 50, 50, 51, 51, 55, 50, 48, 51, 54, 56, 53, 52, 55, 55, 53, 56, 48, 55, 32, 49, 41, 41] = .mk 4 bIf 0 [.mk 1 [97] 0 [] 0, .mk 1 [99] 0 [] 0, .mk 4 bAdd 0 [.mk 2 [] 9223372036854775807 [] 0, .mk 2 [] 1 [] 0] 0] 0 := by kernel_rfl
theorem xOk_ifa : (rfRead [40, 105, 102, 32, 97, 32, 99, 32, 40, 97, 100, 100, 32, 57, 50, 50, 51, 51, 55, 50, 48, 51, 54, 56, 53, 52, 55, 55, 53, 56, 48, 55, 32, 49, 41, 41]).1.every fairB = true ∧ (rfRead [40, 105, 102, 32, 97, 32, 99, 32, 40, 97, 100, 100, 32, 57, 50, 50, 51, 51, 55, 50, 48, 51, 54, 56, 53, 52, 55, 55, 53, 56, 48, 55, 32, 49, 41, 41]).1.size ≤ 100000 := by decide +kernel
theorem xOf_ifb : xOf [40, 105, 102, 32, 97, 32, 40, 97, 100, 100, 32, 57, 50, 50, 51, 51, 55, 50, 48, 51, 54, 56, 53, 52, 55, 55, 53, 56, 48, 55, 32, 49, 41, 32, 99, 41] = .mk 4 bIf 0 [.mk 1 [97] 0 [] 0, .mk 4 bAdd 0 [.mk 2 [] 9223372036854775807 [] 0, .mk 2 [] 1 [] 0] 0, .mk 1 [99] 0 [] 0] 0 := by kernel_rfl
theorem xOk_ifb : (rfRead [40, 105, 102, 32, 97, 32, 40, 97, 100, 100, 32, 57, 50, 50, 51, 51, 55, 50, 48, 51, 54, 56, 53, 52, 55, 55, 53, 56, 48, 55, 32, 49, 41, 32, 99, 41]).1.every fairB = true ∧ (rfRead [40, 105, 102, 32, 97, 32, 40, 97, 100, 100, 32, 57, 50, 50, 51, 51, 55, 50, 48, 51, 54, 56, 53, 52, 55, 55, 53, 56, 48, 55, 32, 49, 41, 32, 99, 41]).1.size ≤ 100000 := by decide +kernel
theorem xOf_and : xOf [40, 97, 110, 100, 32, 97, 32, 99, 41] = .mk 4 bAnd 0 [.mk 1 [97] 0 [] 0, .mk 1 [99] 0 [] 0] 0 := by kernel_rfl
theorem xOk_and : (rfRead [40, 97, 110, 100, 32, 97, 32, 99, 41]).1.every fairB = true ∧ (rfRead [40, 97, 110, 100, 32, 97, 32, 99, 41]).1.size ≤ 100000 := by decide +kernel
theorem xOf_or : xOf [40, 111, 114, 32, 97, 32, 99, 41] = .mk 4 bOr 0 [.mk 1 [97] 0 [] 0, .mk 1 [99] 0 [] 0] 0 := by kernel_rfl
theorem xOk_or : (rfRead [40, 111, 114, 32, 97, 32, 99, 41]).1.every fairB = true ∧ (rfRead [40, 111, 114, 32, 97, 32, 99, 41]).1.size ≤ 100000 := by decide +kernel
theorem xOf_not : xOf [40, 110, 111, 116, 32, 97, 41] = .mk 4 bNot 0 [.mk 1 [97] 0 [] 0] 0 := by kernel_rfl
theorem xOk_not : (rfRead [40, 110, 111, 116, 32, 97, 41]).1.every fairB = true ∧ (rfRead [40, 110, 111, 116, 32, 97, 41]).1.size ≤ 100000 := by decide +kernel
theorem xOf_eq : xOf [40, 101, 113, 32, 97, 32, 99, 41] = .mk 4 bEq 0 [.mk 1 [97] 0 [] 0, .mk 1 [99] 0 [] 0] 0 := by kernel_rfl
theorem xOk_eq : (rfRead [40, 101, 113, 32, 97, 32, 99, 41]).1.every fairB = true ∧ (rfRead [40, 101, 113, 32, 97, 32, 99, 41]).1.size ≤ 100000 := by decide +kernel
theorem xOf_lt : xOf [40, 108, 116, 32, 97, 32, 99, 41] = .mk 4 bLt 0 [.mk 1 [97] 0 [] 0, .mk 1 [99] 0 [] 0] 0 := by kernel_rfl
theorem xOk_lt : (rfRead [40, 108, 116, 32, 97, 32, 99, 41]).1.every fairB = true ∧ (rfRead [40, 108, 116, 32, 97, 32, 99, 41]).1.size ≤ 100000 := by decide +kernel
theorem xOf_cat : xOf [40, 99, 97, 116, 32, 120, 32, 121, 41] = .mk 4 bCat 0 [.mk 1 [120] 0 [] 0, .mk 1 [121] 0 [] 0] 0 := by kernel_rfl
theorem xOk_cat : (rfRead [40, 99, 97, 116, 32, 120, 32, 121, 41]).1.every fairB = true ∧ (rfRead [40, 99, 97, 116, 32, 120, 32, 121, 41]).1.size ≤ 100000 := by decide +kernel
theorem xOf_len : xOf [40, 108, 101, 110, 32, 120, 41] = .mk 4 bLen 0 [.mk 1 [120] 0 [] 0] 0 := by kernel_rfl
theorem xOk_len : (rfRead [40, 108, 101, 110, 32, 120, 41]).1.every fairB = true ∧ (rfRead [40, 108, 101, 110, 32, 120, 41]).1.size ≤ 100000 := by decide +kernel
theorem xOf_eqx : xOf [40, 101, 113, 32, 120, 32, 121, 41] = .mk 4 bEq 0 [.mk 1 [120] 0 [] 0, .mk 1 [121] 0 [] 0] 0 := by kernel_rfl
theorem xOk_eqx : (rfRead [40, 101, 113, 32, 120, 32, 121, 41]).1.every fairB = true ∧ (rfRead [40, 101, 113, 32, 120, 32, 121, 41]).1.size ≤ 100000 := by decide +kernel
theorem xOf_ltx : xOf [40, 108, 116, 32, 120, 32, 121, 41] = .mk 4 bLt 0 [.mk 1 [120] 0 [] 0, .mk 1 [121] 0 [] 0] 0 := by kernel_rfl
theorem xOk_ltx : (rfRead [40, 108, 116, 32, 120, 32, 121, 41]).1.every fairB = true ∧ (rfRead [40, 108, 116, 32, 120, 32, 121, 41]).1.size ≤ 100000 := by decide +kernel
end Go.Proofs.Ytiiogjpgeginlaa

namespace Go.Proofs.Ytiiogjpgeginlaa
open Go.RowKit
set_option linter.unusedVariables false

def ucols : List C := [(⟨#[97]⟩, 1), (⟨#[99]⟩, 1)]
theorem keep_u (w : World) : Calls Try.prog 28 #[] w fun e w' => e = .returned (.slice (some ⟨w.heap.size, 0, none⟩) 2 2) ∧ Cs w' (some ⟨w.heap.size, 0, none⟩) 2 2 ucols ∧ Ev w w' := by
  go_enter Try.func28, Try.ntmps28
  go_wp2
  go_ret
  exact ⟨rfl, Cs.made ucols 2 rfl (by decide) w _ rfl, Ev.alloc _ _⟩
theorem value_add (a b : Int) : xValue ucols [numV a, numV b] (.mk 4 bAdd 0 [.mk 1 [97] 0 [] 0, .mk 1 [99] 0 [] 0] 0) = xFit (a + b) := by kernel_rfl
theorem value_sub (a b : Int) : xValue ucols [numV a, numV b] (.mk 4 bSub 0 [.mk 1 [97] 0 [] 0, .mk 1 [99] 0 [] 0] 0) = xFit (a - b) := by kernel_rfl
theorem value_mul (a b : Int) : xValue ucols [numV a, numV b] (.mk 4 bMul 0 [.mk 1 [97] 0 [] 0, .mk 1 [99] 0 [] 0] 0) = xFit (a * b) := by kernel_rfl
end Go.Proofs.Ytiiogjpgeginlaa

namespace Go.Proofs.Ytiiogjpgeginlaa
open Go.RowKit
set_option linter.unusedVariables false

theorem of_at (s : ByteArray) (t : T) (ht : xOf s.data.toList = t) (hk : (rfRead s.data.toList).1.every fairB = true ∧ (rfRead s.data.toList).1.size ≤ 100000) (hs : s.size ≤ 100000) (w : World) :
    Calls Try.prog 21 #[.string s] w (OfOut t w) := by
  rw [← ht]
  exact law8_of s w hs hk.1 hk.2
theorem eval_at (t : T) (cols : List C) (r : List V) (k n : Int) (s : ByteArray) (y : Int) (hR : xValue cols r t = ((k, n, s), y)) (hz : t.size ≤ 16000) (hft : t.every fairB = true) (hfr : ∀ x ∈ r, fairV x) (m : M) (b0 : Nat) (w : World) (A : Option Addr) (n1 cap : Nat) (B : Option Addr) (n2 cap2 : Nat) (hm : m.t = t) (hL : Lx b0 [] w m) (hC : Cs w A n1 cap cols) (hV : Vs w B n2 cap2 r) :
    Calls Try.prog 19 #[ev_ m, .slice A n1 cap, .slice B n2 cap2] w fun e w' => e = .returned (.tuple #[vv k n s, .int .i64 y]) ∧ Ev w w' := by
  subst hm
  have := ex_eval m b0 w A n1 cap cols B n2 cap2 r hL hC hV hz hfr hft
  rw [hR] at this
  exact this
theorem type_at (t : T) (cols : List C) (R1 R2 : Int) (hR : xType cols t = (R1, R2)) (hz : t.size ≤ 16000) (hft : t.every fairB = true) (m : M) (b0 : Nat) (w : World) (A : Option Addr) (n cap : Nat) (hm : m.t = t) (hL : Lx b0 [] w m) (hC : Cs w A n cap cols) :
    Calls Try.prog 17 #[ev_ m, .slice A n cap] w fun e w' => e = .returned (.tuple #[.int .i64 R1, .int .i64 R2]) ∧ Ev w w' := by
  subst hm
  have := ex_type m b0 w A n cap cols hL hC hz (fair_short hft)
  rw [hR] at this
  exact this
theorem fair_num {a : Int} (h : i64R a) : fairV (numV a) := ⟨h, (show (0 : Nat) ≤ 100000 by omega)⟩
theorem fair_nums {l : List Int} (h : ∀ a ∈ l, i64R a) : ∀ x ∈ l.map numV, fairV x := fun x hx => by
  obtain ⟨a, ha, rfl⟩ := List.mem_map.1 hx
  exact fair_num (h a ha)
theorem value_known : xValue ucols ([-5, 1].map numV) (.mk 4 bIf 0 [.mk 4 bLt 0 [.mk 1 [97] 0 [] 0, .mk 2 [] 0 [] 0] 0, .mk 4 bNeg 0 [.mk 1 [97] 0 [] 0] 0, .mk 1 [97] 0 [] 0] 0) = ((1, 5, ⟨#[]⟩), 0) := by kernel_rfl
theorem type_known : xType ucols (.mk 4 bAdd 0 [.mk 1 [97] 0 [] 0, .mk 3 [120] 0 [] 0] 0) = (0, 22) := by kernel_rfl

set_option maxRecDepth 100000 in
set_option maxHeartbeats 4000000 in
theorem known8_any (w : World) :
    Calls Try.prog 25 #[] w fun e w' => e = .returned (.bool true) ∧ Ev w w' := by
  have hmix : Try.prog.follows .mixedOrders = true := by kernel_rfl
  have HO1 := Lib.hid (of_at ⟨#[40, 105, 102, 32, 40, 108, 116, 32, 97, 32, 48, 41, 32, 40, 110, 101, 103, 32, 97, 41, 32, 97, 41]⟩ _ xOf_if xOk_if (by decide))
  have HO2 := Lib.hid (of_at ⟨#[40, 97, 100, 100, 32, 97, 32, 34, 120, 34, 41]⟩ _ xOf_addx xOk_addx (by decide))
  have HU := Lib.hid keep_u
  have HN : Hid (∀ w, Calls Try.prog 22 #[.slice (some ⟨w.heap.size, 0, none⟩) 2 2] (w.alloc (.cells #[.int .i64 (-5), .int .i64 1] 2)) fun e w' => ∃ A m cap, e = .returned (.slice A m cap) ∧ Vs w' A m cap ([-5, 1].map numV) ∧ Ev w w') := Lib.hid fun w1 => nums_lit [-5, 1] 2 rfl (by decide) w1 _ rfl
  have HE := Lib.hid (eval_at _ _ _ _ _ _ _ value_known (by decide +kernel) (by decide +kernel) (fair_nums (by decide)))
  have HT := Lib.hid (type_at _ _ _ _ type_known (by decide +kernel) (by decide +kernel))
  have HK := Lib.hid fun w1 => keep_num 5 w1
  go_enter Try.func25, Try.ntmps25
  go_wp2_with (first
    | ((with_reducible refine (HO2.out _).mono ?_); rintro e w5 ⟨y, rfl, hyt, hyl, hE5⟩)
    | ((with_reducible refine (HO1.out w).mono ?_); rintro e w1 ⟨x, rfl, hxt, hxl, hE1⟩)
    | (have hh := hE5; (with_reducible refine (HU.out _).mono ?_); rintro e w6 ⟨rfl, hC6, hE6⟩)
    | ((with_reducible refine (HU.out _).mono ?_); rintro e w2 ⟨rfl, hC2, hE2⟩)
    | ((with_reducible refine (HN.out w2).mono ?_); rintro e w3 ⟨A3, n3, cap3, rfl, hV3, hE3⟩)
    | ((with_reducible refine (HE.out x _ _ _ _ _ _ _ _ hxt (hxl.ev (hE2.trans hE3)) (hC2.ev hE3) hV3).mono ?_); rintro e w4 ⟨rfl, hE4⟩; have hB4 := Boxed.new 1 5 ⟨#[]⟩ w4)
    | ((with_reducible refine (HT.out y _ _ _ _ _ hyt (hyl.ev hE6) hC6).mono ?_); rintro e w7 ⟨rfl, hE7⟩; have HB := hB4.ev ((hE5.trans hE6).trans hE7); have E7 := ((((((hE1.trans hE2).trans hE3).trans hE4).trans (Ev.alloc w4 (.cells #[.int .i64 1, .int .i64 5, .string ⟨#[]⟩] 25))).trans hE5).trans hE6).trans hE7))
  generalize w4.heap.size = pv at *
  refine wp_region_slots hmix [fun v _ => v = vv 1 5 ⟨#[]⟩, fun v _ => v = vv 1 5 ⟨#[]⟩, fun v _ => v = .bool true, fun v _ => v = .bool true, fun v _ => v = .int .i64 0, fun v _ => v = .bool true, fun v _ => v = .bool true, fun v _ => v = .bool true, fun v _ => v = .int .i64 22, fun v _ => v = .bool true, fun v _ => v = .bool true, fun v _ => v = .bool true]
    30 rfl (by kernel_rfl) ⟨mono_eq _, mono_eq _, mono_eq _, mono_eq _, mono_eq _, mono_eq _, mono_eq _, mono_eq _, mono_eq _, mono_eq _, mono_eq _, mono_eq _, trivial⟩ ?_ ?_
  · refine ops_cons 0 ?_ (ops_cons 1 ?_ (ops_cons 2 ?_ (ops_cons 3 ?_ (ops_cons 4 ?_ (ops_cons 5 ?_ (ops_cons 6 ?_ (ops_cons 7 ?_ (ops_cons 8 ?_ (ops_cons 9 ?_ (ops_cons 10 ?_ (ops_cons 11 ?_ (ops_nil 12))))))))))))
    · refine op_value fun a w c => ⟨(wanted_plain rfl), _, run_load_val rfl ((c.was 1 (by kernel_rfl) rfl) : a.eval (.tmp 1) = .pointer (some ⟨pv, 0, none⟩)) (HB.ev c.ev), rfl⟩
    · refine op_call fun a w c => ⟨(wanted_plain rfl), 10, #[.int .i64 5], ?_, ?_⟩
      · rw [run_call 10 _ _ rfl (by kernel_rfl)]
        simp [evc]
      · refine (HK.out w).mono ?_
        rintro e w2 ⟨rfl, hE⟩
        exact ⟨_, rfl, hE, rfl⟩
    · refine op_value fun a w c => ⟨(wanted_plain rfl), _, op_eq_val rfl ((c.new 0 19 (by kernel_rfl) (by kernel_rfl)) : a.eval (.tmp 19) = vv 1 5 ⟨#[]⟩) ((c.new 1 20 (by kernel_rfl) (by kernel_rfl)) : a.eval (.tmp 20) = vv 1 5 ⟨#[]⟩), congrArg Value.bool (sameV_self _ _ _)⟩
    · refine op_value fun a w c => ⟨(wanted_plain rfl), _, run_move _ rfl w, (c.new 2 21 (by kernel_rfl) (by kernel_rfl))⟩
    · refine op_value fun a w c => ⟨(wanted_yes rfl (by kernel_rfl) (c.new 3 22 (by kernel_rfl) (by kernel_rfl))), _, run_move _ rfl w, (c.was 2 (by kernel_rfl) rfl)⟩
    · refine op_value fun a w c => ⟨(wanted_yes rfl (by kernel_rfl) (c.new 3 22 (by kernel_rfl) (by kernel_rfl))), .bool true, ?_, rfl⟩
      have e23 : a.eval (.tmp 23) = .int .i64 0 := (c.new 4 23 (by kernel_rfl) (by kernel_rfl))
      have kc0 : a.eval (.const (.int .i64 0)) = .int .i64 0 := rfl
      generalize a.eval = ρ at e23 kc0 ⊢
      simp [execOp, e23, kc0, go_sem]
    · refine op_value fun a w c => ⟨(wanted_plain rfl), _, run_pick_true rfl (c.new 3 22 (by kernel_rfl) (by kernel_rfl)) w, (c.new 5 24 (by kernel_rfl) (by kernel_rfl))⟩
    · refine op_value fun a w c => ⟨(wanted_plain rfl), _, run_move _ rfl w, (c.new 6 25 (by kernel_rfl) (by kernel_rfl))⟩
    · refine op_value fun a w c => ⟨(wanted_yes rfl (by kernel_rfl) (c.new 7 26 (by kernel_rfl) (by kernel_rfl))), _, run_move _ rfl w, (c.was 4 (by kernel_rfl) rfl)⟩
    · refine op_value fun a w c => ⟨(wanted_yes rfl (by kernel_rfl) (c.new 7 26 (by kernel_rfl) (by kernel_rfl))), .bool true, ?_, rfl⟩
      have e27 : a.eval (.tmp 27) = .int .i64 22 := (c.new 8 27 (by kernel_rfl) (by kernel_rfl))
      have kc0 : a.eval (.const (.int .i64 22)) = .int .i64 22 := rfl
      generalize a.eval = ρ at e27 kc0 ⊢
      simp [execOp, e27, kc0, go_sem]
    · refine op_value fun a w c => ⟨(wanted_plain rfl), _, run_pick_true rfl (c.new 7 26 (by kernel_rfl) (by kernel_rfl)) w, (c.new 9 28 (by kernel_rfl) (by kernel_rfl))⟩
    · refine op_value fun a w c => ⟨(wanted_plain rfl), _, run_assign _ rfl w, (c.new 10 29 (by kernel_rfl) (by kernel_rfl))⟩
  intro sl wr hEr hold hnew
  have f1 : sl 1 = .pointer (some ⟨pv, 0, none⟩) := hold 1 (by kernel_rfl)
  have f2 : sl 2 = .int .i64 0 := hold 2 (by kernel_rfl)
  have f4 : sl 4 = .int .i64 22 := hold 4 (by kernel_rfl)
  have f0 : sl 0 = .bool true := hnew 11 0 (by kernel_rfl)
  have f19 : sl 19 = vv 1 5 ⟨#[]⟩ := hnew 0 19 (by kernel_rfl)
  have f20 : sl 20 = vv 1 5 ⟨#[]⟩ := hnew 1 20 (by kernel_rfl)
  have f21 : sl 21 = .bool true := hnew 2 21 (by kernel_rfl)
  have f22 : sl 22 = .bool true := hnew 3 22 (by kernel_rfl)
  have f23 : sl 23 = .int .i64 0 := hnew 4 23 (by kernel_rfl)
  have f24 : sl 24 = .bool true := hnew 5 24 (by kernel_rfl)
  have f25 : sl 25 = .bool true := hnew 6 25 (by kernel_rfl)
  have f26 : sl 26 = .bool true := hnew 7 26 (by kernel_rfl)
  have f27 : sl 27 = .int .i64 22 := hnew 8 27 (by kernel_rfl)
  have f28 : sl 28 = .bool true := hnew 9 28 (by kernel_rfl)
  have f29 : sl 29 = .bool true := hnew 10 29 (by kernel_rfl)
  change Exit.then _ _ .normal ⟨#[sl 0, sl 1, sl 2, sl 3, sl 4, sl 5, sl 6, sl 7, sl 8, sl 9, sl 10, sl 11, sl 12, sl 13, sl 14, sl 15, sl 16, sl 17, sl 18, sl 19, sl 20, sl 21, sl 22, sl 23, sl 24, sl 25, sl 26, sl 27, sl 28, sl 29], _⟩ _
  simp only [f1, f2, f4, f0, f19, f20, f21, f22, f23, f24, f25, f26, f27, f28, f29]
  clear hold hnew
  go_wp2
  go_ret
  exact ⟨rfl, E7.trans hEr⟩
end Go.Proofs.Ytiiogjpgeginlaa
