/-
  What the law knows: some runs of chapter 17.
-/
import Derived.Test.YtdfoangkjeoomaaNd
import Derived.Deep.Cut
namespace Go.Proofs.Ytdfoangkjeoomaa
open Go.RowKit
set_option linter.unusedVariables false
set_option maxRecDepth 100000

def knT : List RQ := doneT newT 0 1 (0, 3, ⟨#[]⟩)
theorem rv_zero : rv rp0 = .agg #[.int .i64 0, .int .i64 0, .string ⟨#[]⟩] := rfl
theorem knT_facts : doneE newT 0 1 = 0 ∧ askK knT 0 1 = 2 ∧ askR knT 0 1 = (0, 3, ⟨#[]⟩) ∧ askK knT 0 2 = 1 ∧ askR knT 0 2 = rp0 ∧ lastS knT 0 = 1 := by decide +kernel

set_option maxHeartbeats 3200000 in
theorem known17 (w : World) :
    Calls Try.prog 13 #[] w fun e w' => e = .returned (.bool true) ∧ Ev w w' := by
  obtain ⟨k0, k1, k2, k3, k4, k5⟩ := knT_facts
  have HN := Lib.hid (sess_new w)
  have CD := fun (w1 : World) (h : TbAt w.heap.size newT w1) => sess_done w.heap.size newT 0 1 (0, 3, ⟨#[]⟩) w1 h
  have CA := fun (w1 : World) (h : TbAt w.heap.size knT w1) => sess_ask w.heap.size knT 0 1 w1 h
  have CB := fun (w1 : World) (h : TbAt w.heap.size knT w1) => sess_ask w.heap.size knT 0 2 w1 h
  have CL := fun (w1 : World) (h : TbAt w.heap.size knT w1) => sess_last w.heap.size knT 0 w1 h
  rw [k1, k2] at CA
  rw [k3, k4, rv_zero] at CB
  rw [k5] at CL
  rw [k0, show doneT newT 0 1 (0, 3, ⟨#[]⟩) = knT from rfl] at CD
  generalize knT = K at *
  unfold rv rcells at CA CD
  have HD := Lib.hid CD; have HA := Lib.hid CA; have HB := Lib.hid CB; have HL := Lib.hid CL
  clear CD CA CB CL k0 k1 k2 k3 k4 k5
  go_enter Try.func13, Try.ntmps13
  go_upto_region 4 with (refine HN.out.mono ?_; rintro e w1 ⟨rfl, hT1, hE1⟩)
  go_upto_region 5 with ((with_reducible refine (HD.out _ hT1).mono ?_); rintro e w2 ⟨rfl, hT2, hB2⟩)
  have hT3 : TbAt w.heap.size K w2 := hT2
  have hE2 : Ev w w2 := ((But.of_ev (K := []) hE1).trans hB2 (fun x hx => .inr (by simp at hx; omega))).ev (by simp)
  clear hT2 hB2 hE1 hT1
  go_upto_region 6 with ((with_reducible refine (HA.out _ hT3).mono ?_); rintro e w3 ⟨rfl, hE3⟩)
  have hT4 := (hT3.ev hE3).ev (Ev.alloc w3 (.cells #[.int .i64 0, .int .i64 3, .string ⟨#[]⟩] 26))
  go_upto_region 7 with ((with_reducible refine (HB.out _ hT4).mono ?_); rintro e w4 ⟨rfl, hE4⟩)
  have hT5 := (hT4.ev hE4).ev (Ev.alloc w4 (.cells #[.int .i64 0, .int .i64 0, .string ⟨#[]⟩] 26))
  have hbx : (w4.alloc (.cells #[.int .i64 0, .int .i64 0, .string ⟨#[]⟩] 26)).heap[w3.heap.size]? = some (.cells #[.int .i64 0, .int .i64 3, .string ⟨#[]⟩] 26 (0, 0)) := (But.of_ev (K := []) (hE4.trans (Ev.alloc _ _))).heap (heap_alloc_new w3 _) (by simp)
  have hE5 := ((hE2.trans (hE3.trans (Ev.alloc w3 (.cells #[.int .i64 0, .int .i64 3, .string ⟨#[]⟩] 26)))).trans hE4).trans (Ev.alloc w4 (.cells #[.int .i64 0, .int .i64 0, .string ⟨#[]⟩] 26))
  generalize hW5 : w4.alloc (.cells #[.int .i64 0, .int .i64 0, .string ⟨#[]⟩] 26) = W5 at *
  have b0 : W5.cell? ⟨w3.heap.size, 0, none⟩ = some (.int .i64 0) := by rw [Lib.cell_of_heap hbx]; rfl
  have b1 : W5.cell? ⟨w3.heap.size, 1, none⟩ = some (.int .i64 3) := by rw [Lib.cell_of_heap hbx]; rfl
  have b2 : W5.cell? ⟨w3.heap.size, 2, none⟩ = some (.string ⟨#[]⟩) := by rw [Lib.cell_of_heap hbx]; rfl
  clear hbx hT4 hT3 hW5
  go_wp2_with ((with_reducible refine (HL.out _ hT5).mono ?_); rintro e w5 ⟨rfl, rfl⟩)
  go_ret
  exact ⟨rfl, hE5⟩
end Go.Proofs.Ytdfoangkjeoomaa
