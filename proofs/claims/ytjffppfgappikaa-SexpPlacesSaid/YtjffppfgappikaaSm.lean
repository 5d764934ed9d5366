/-
  Chapter 7's runs ('known').
-/
import Derived.Test.YtjffppfgappikaaSl
import Derived.KernelRfl
namespace Go.Proofs.Ytjffppfgappikaa
open Go.RowKit
set_option linter.unusedVariables false

theorem known_read1 : sxRead [40, 97, 32, 45, 51, 32, 34, 120, 92, 50, 50, 34, 41] = (.mk 1 [] 0 [.mk 2 [97] 0 [] 1, .mk 3 [] (-3) [] 3, .mk 4 [120, 34] 0 [] 6] 0, 0, 0) := by kernel_rfl
theorem known_read2 : sxRead [40] = (sxZero, 10, 1) := by kernel_rfl

theorem known_tree {w : World} {m : M} {b0 : Nat} {K : List Nat} (hm : m.t = .mk 1 [] 0 [.mk 2 [97] 0 [] 1, .mk 3 [] (-3) [] 3, .mk 4 [120, 34] 0 [] 6] 0) (hl : Lies b0 K w m) :
    ∃ (s : By) (n : Int) (b off cap : Nat) (l : List M) (p : Nat), m = .mk 1 s n (some ⟨b, off, none⟩) cap l p ∧ l.length = 3 ∧ 3 ≤ cap ∧ cap ≤ 9223372036854775807 ∧ b < w.heap.size ∧
      w.cell? ⟨b, off + 7, none⟩ = some (.int .i64 (-3)) ∧ w.cell? ⟨b, off + 11, none⟩ = some (.string ⟨#[120, 34]⟩) := by
  obtain ⟨k, s, n, A, cap, l, p⟩ := m
  simp only [M.t, M.ts_map, T.mk.injEq] at hm
  obtain ⟨rfl, rfl, rfl, h4, rfl⟩ := hm
  have hms := hl.ms
  simp only [M.A, M.kids, M.cap] at hms
  obtain ⟨x0, x1, x2, rfl⟩ : ∃ x0 x1 x2, l = [x0, x1, x2] := by
    cases l with
    | nil => simp at h4
    | cons a l =>
      cases l with
      | nil => simp at h4
      | cons b l =>
        cases l with
        | nil => simp at h4
        | cons c l =>
          cases l with
          | nil => exact ⟨_, _, _, rfl⟩
          | cons d l => simp at h4
  simp only [List.map_cons, List.map_nil, List.cons.injEq, and_true] at h4
  obtain ⟨_, h1, h2⟩ := h4
  obtain ⟨b, off, rfl, hb, _, _, d2, _, _⟩ := hms.cell (i := 1) (x := x1) rfl
  obtain ⟨b', off', e, _, _, e1, _, _, _⟩ := hms.cell (i := 2) (x := x2) rfl
  injection e with e
  injection e with e e' _
  subst e; subst e'
  have hn1 : x1.n = -3 := by
    rw [M.t_eq] at h1
    simp only [T.mk.injEq] at h1
    exact h1.2.2.1
  have hs2 : x2.s = [120, 34] := by
    rw [M.t_eq] at h2
    simp only [T.mk.injEq] at h2
    exact h2.2.1
  rw [hn1] at d2
  rw [hs2] at e1
  exact ⟨_, _, b, off, cap, _, _, rfl, rfl, hms.le, hms.max, hb, d2, e1⟩

theorem World.alloc_size_ (w : World) (o : Obj) : (w.alloc o).heap.size = w.heap.size + 1 := by simp
theorem known_box {w1 w2 : World} {k n p : Int} {s : ByteArray} {v : Value} (h : Ev (w1.alloc (.cells #[.int .i64 k, .string s, .int .i64 n, v, .int .i64 p] 24)) w2) :
    w2.cell? ⟨w1.heap.size, 0, none⟩ = some (.int .i64 k) ∧ w2.cell? ⟨w1.heap.size, 3, none⟩ = some v := by
  have hb : w2.heap[w1.heap.size]? = some (.cells #[.int .i64 k, .string s, .int .i64 n, v, .int .i64 p] 24 (0, 0)) := by
    rw [h.block w1.heap.size (by simp)]
    exact heap_alloc_new _ _
  exact ⟨by rw [Lib.cell_of_heap hb]; rfl, by rw [Lib.cell_of_heap hb]; rfl⟩
theorem known_call1 (w : World) : Calls Try.prog 5 #[.string ⟨#[40, 97, 32, 45, 51, 32, 34, 120, 92, 50, 50, 34, 41]⟩] w fun e w' => ∃ (s : By) (n : Int) (b off cap p : Nat),
    e = .returned (.tuple #[.agg #[.int .i64 1, .string ⟨s.toArray⟩, .int .i64 n, .slice (some ⟨b, off, none⟩) 3 cap, .int .i64 (p : Int)], .int .i64 0, .int .i64 0]) ∧ 3 ≤ cap ∧ cap ≤ 9223372036854775807 ∧ b < w'.heap.size ∧
      w'.cell? ⟨b, off + 7, none⟩ = some (.int .i64 (-3)) ∧ w'.cell? ⟨b, off + 11, none⟩ = some (.string ⟨#[120, 34]⟩) ∧ Ev w w' := by
  refine (sx_read ⟨#[40, 97, 32, 45, 51, 32, 34, 120, 92, 50, 50, 34, 41]⟩ w (by decide)).mono ?_
  rintro e w1 ⟨m, rfl, hmt, hml, hE1⟩
  have hr : sxRead (⟨#[40, 97, 32, 45, 51, 32, 34, 120, 92, 50, 50, 34, 41]⟩ : ByteArray).data.toList = _ := known_read1
  rw [hr] at hmt ⊢
  obtain ⟨s, n, b, off, cap, l, p, rfl, hl3, hc3, hcm, hb, d7, d11⟩ := known_tree hmt hml
  refine ⟨s, n, b, off, cap, p, ?_, hc3, hcm, hb, d7, d11, hE1⟩
  simp only [M.kind, M.s, M.n, M.A, M.kids, M.cap, M.pos, hl3]
  rfl
theorem known_call2 (w : World) : Calls Try.prog 5 #[.string ⟨#[40]⟩] w fun e w' => ∃ (k : Int) (s : ByteArray) (n : Int) (A : Option Addr) (q cap p : Nat),
    e = .returned (.tuple #[.agg #[.int .i64 k, .string s, .int .i64 n, .slice A q cap, .int .i64 (p : Int)], .int .i64 10, .int .i64 1]) ∧ Ev w w' := by
  refine (sx_read ⟨#[40]⟩ w (by decide)).mono ?_
  rintro e w1 ⟨m, rfl, hmt, hml, hE1⟩
  have hr : sxRead (⟨#[40]⟩ : ByteArray).data.toList = _ := known_read2
  rw [hr]
  exact ⟨_, _, _, _, _, _, _, rfl, hE1⟩

set_option maxRecDepth 100000 in
set_option maxHeartbeats 1000000 in
theorem known7_any (w : World) :
    Calls Try.prog 6 #[] w fun e w' => e = .returned (.bool true) ∧ Ev w w' := by
  have HR1 := Lib.hid known_call1
  have HR2 := Lib.hid known_call2
  go_enter Try.func6, Try.ntmps6
  go_wp2_with (first
    | ((with_reducible refine (HR1.out _).mono ?_); rintro e w1 ⟨s, n, b, off, cap, p, rfl, hc3, hcm, hb, d7, d11, hE1⟩)
    | ((with_reducible refine (HR2.out _).mono ?_); rintro e w2 ⟨k2, s2, n2, A2, q2, cap2, p2, rfl, hE2⟩; have g0 := known_box hE2; have g1 := hE2.size; simp only [World.alloc_size_] at g1; have hbw : b < w2.heap.size := (by omega); have hgw : w1.heap.size < w2.heap.size := (by omega); have d7' := (hE2.cell (p := ⟨b, off + 7, none⟩) (by simp; omega)).trans ((Ev.alloc w1 _).cell (p := ⟨b, off + 7, none⟩) hb |>.trans d7); have d11' := (hE2.cell (p := ⟨b, off + 11, none⟩) (by simp; omega)).trans ((Ev.alloc w1 _).cell (p := ⟨b, off + 11, none⟩) hb |>.trans d11); obtain ⟨k0, k3⟩ := g0))
  go_ret
  exact ⟨rfl, ((hE1.trans (Ev.alloc _ _)).trans hE2).trans (Ev.alloc _ _)⟩
end Go.Proofs.Ytjffppfgappikaa
