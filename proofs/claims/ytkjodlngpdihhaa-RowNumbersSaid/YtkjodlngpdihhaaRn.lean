/-
  The walk of RowNumbers.
-/
import Derived.Test.YtkjodlngpdihhaaLaw5
import Derived.Deep.Cut
namespace Go.Proofs.Ytkjodlngpdihhaa
open Go.RowKit
set_option linter.unusedVariables false

theorem flat_get {α : Type} {k : Nat} {enc : α → List Value} (hk : ∀ x, (enc x).length = k) : ∀ (l : List α) (i : Nat) (x : α), l[i]? = some x → ∀ j u, (enc x)[j]? = some u → (l.flatMap enc)[i * k + j]? = some u
  | [], _, _, h, _, _, _ => by simp at h
  | y :: l, 0, x, h, j, u, hu => by
    simp at h
    subst h
    have hj : j < (enc y).length := (List.getElem?_eq_some_iff.1 hu).1
    rw [List.flatMap_cons, Nat.zero_mul, Nat.zero_add, List.getElem?_append_left hj]
    exact hu
  | y :: l, i + 1, x, h, j, u, hu => by
    have e : (i + 1) * k + j - k = i * k + j := by rw [Nat.add_mul, Nat.one_mul]; omega
    rw [List.flatMap_cons, List.getElem?_append_right (by rw [hk, Nat.add_mul]; omega), hk, e]
    exact flat_get hk l i x (by simpa using h) j u hu
/-- A literal slice of structs. -/
theorem Sl.made {α : Type} {k : Nat} {enc : α → List Value} (hk : ∀ x, (enc x).length = k) (l : List α) (n : Nat) (hn : l.length = n) (hm : n ≤ 1000) (w : World) (cs : Array Value) (T : TypeId) (hc : cs = (l.flatMap enc).toArray) :
    Sl k enc (w.alloc (.cells cs T)) (some ⟨w.heap.size, 0, none⟩) n n l :=
  ⟨hn, Nat.le_refl _, by omega, by simp, fun _ => ⟨w.heap.size, 0, rfl, by simp, fun i x hx j u hu => by
    rw [Lib.cell_of_heap (heap_alloc_new w _), hc, List.getElem?_toArray, Nat.zero_add]
    exact flat_get hk l i x hx j u hu⟩⟩
theorem Cs.made (l : List C) (n : Nat) (hn : l.length = n) (hm : n ≤ 1000) (w : World) (cs : Array Value) (hc : cs = (l.flatMap ccells).toArray) : Cs (w.alloc (.cells cs 23)) (some ⟨w.heap.size, 0, none⟩) n n l := Sl.made (enc := ccells) (fun _ => rfl) l n hn hm w cs _ hc
theorem Vs.made (l : List V) (n : Nat) (hn : l.length = n) (hm : n ≤ 1000) (w : World) (cs : Array Value) (hc : cs = (l.flatMap vcells).toArray) : Vs (w.alloc (.cells cs 61)) (some ⟨w.heap.size, 0, none⟩) n n l := Sl.made (enc := vcells) (fun _ => rfl) l n hn hm w cs _ hc

def tcols : List C := [(⟨#[97]⟩, 1), (⟨#[98]⟩, 1), (⟨#[115]⟩, 2)]
theorem keep_t (w : World) : Calls Try.prog 17 #[] w fun e w' => e = .returned (.slice (some ⟨w.heap.size, 0, none⟩) 3 3) ∧ Cs w' (some ⟨w.heap.size, 0, none⟩) 3 3 tcols ∧ Ev w w' := by
  go_enter Try.func17, Try.ntmps17
  go_wp2
  go_ret
  exact ⟨rfl, Cs.made tcols 3 rfl (by decide) w _ rfl, Ev.alloc _ _⟩

theorem small_names {l : List C} (h : (l.all fun y => decide (y.1.size ≤ maxLen)) = true) : ∀ y ∈ l, y.1.size ≤ maxLen := fun y hy => of_decide_eq_true (List.all_eq_true.1 h y hy)
theorem rd_seven : rdRow [7] 0 0 = ([], 3, 0) := by decide +kernel
theorem rdEnd_seven : rdEnd [7] 3 0 = (3, 0) := by decide +kernel
theorem find_b : findC [(⟨#[97]⟩, 1), (⟨#[98]⟩, 1), (⟨#[98]⟩, 2)] ⟨#[98]⟩ = some 1 := by simp [findC, named, List.findIdx?_cons]
theorem find_s : findC tcols ⟨#[115]⟩ = some 2 := by simp [findC, named, tcols, List.findIdx?_cons]
theorem find_x : findC tcols ⟨#[120]⟩ = none := by simp [findC, named, tcols, List.findIdx?_cons]
theorem right_7 : rightR ([1, 2, 3, 4, 5, 6, 7].map numV) = false := by simp [rightR]
theorem right_6 : rightR ([1, 2, 3, 4, 5, 6].map numV) = true := by simp [rightR, okR, rightV, numV]
theorem right_0 : rightR [] = false := rfl
theorem right_z : rightR (List.replicate 7 (0, 0, ⟨#[]⟩)) = false := by simp [rightR]
theorem same_11 : sameR ([1].map numV) ([1].map numV) = true := by simp [sameR, eqL, rightR, okR, rightV, numV]
theorem same_00 : sameR [] [] = false := rfl
theorem make_cols (u : World) : (Instr.makeSlice 24 (.int .i64 7) (.int .i64 7)).run Try.prog u = .ok (.slice (some ⟨u.heap.size, 0, none⟩) 7 7) (u.alloc (.cells #[.string ⟨#[]⟩, .int .i64 0, .string ⟨#[]⟩, .int .i64 0, .string ⟨#[]⟩, .int .i64 0, .string ⟨#[]⟩, .int .i64 0, .string ⟨#[]⟩, .int .i64 0, .string ⟨#[]⟩, .int .i64 0, .string ⟨#[]⟩, .int .i64 0] 23)) := by
  obtain ⟨i0, hi, hz0, hz1, hz2⟩ := info_parts (show (Try.prog.info? 23).map (fun i => (i.zero, i.size, i.bytes)) = some (some (.agg #[.string ⟨#[]⟩, .int .i64 0]), 2, 24) by kernel_rfl)
  have h := run_make (P := Try.prog) u 24 23 i0 _ Try.underlying24 hi hz0 .i64 .i64 7 7 (by omega) (Int.le_refl _) (by rw [hz2]; omega) (by omega)
  rw [hz1, show madeCells (Value.agg #[.string ⟨#[]⟩, .int .i64 0]).cells (Int.toNat 7 * 2) = #[.string ⟨#[]⟩, .int .i64 0, .string ⟨#[]⟩, .int .i64 0, .string ⟨#[]⟩, .int .i64 0, .string ⟨#[]⟩, .int .i64 0, .string ⟨#[]⟩, .int .i64 0, .string ⟨#[]⟩, .int .i64 0, .string ⟨#[]⟩, .int .i64 0] by kernel_rfl] at h
  exact h
theorem make_row (u : World) : (Instr.makeSlice 35 (.int .i64 7) (.int .i64 7)).run Try.prog u = .ok (.slice (some ⟨u.heap.size, 0, none⟩) 7 7) (u.alloc (.cells #[.int .i64 0, .int .i64 0, .string ⟨#[]⟩, .int .i64 0, .int .i64 0, .string ⟨#[]⟩, .int .i64 0, .int .i64 0, .string ⟨#[]⟩, .int .i64 0, .int .i64 0, .string ⟨#[]⟩, .int .i64 0, .int .i64 0, .string ⟨#[]⟩, .int .i64 0, .int .i64 0, .string ⟨#[]⟩, .int .i64 0, .int .i64 0, .string ⟨#[]⟩] 61)) := by
  obtain ⟨i0, hi, hz0, hz1, hz2⟩ := info_parts Try.infoVal
  have h := run_make (P := Try.prog) u 35 61 i0 _ Try.underlying35 hi hz0 .i64 .i64 7 7 (by omega) (Int.le_refl _) (by rw [hz2]; omega) (by omega)
  rw [hz1, show madeCells (Value.agg #[.int .i64 0, .int .i64 0, .string ⟨#[]⟩]).cells (Int.toNat 7 * 3) = #[.int .i64 0, .int .i64 0, .string ⟨#[]⟩, .int .i64 0, .int .i64 0, .string ⟨#[]⟩, .int .i64 0, .int .i64 0, .string ⟨#[]⟩, .int .i64 0, .int .i64 0, .string ⟨#[]⟩, .int .i64 0, .int .i64 0, .string ⟨#[]⟩, .int .i64 0, .int .i64 0, .string ⟨#[]⟩, .int .i64 0, .int .i64 0, .string ⟨#[]⟩] by kernel_rfl] at h
  exact h

theorem new_seven (w : World) : Calls Try.prog 11 #[.slice (some ⟨w.heap.size, 0, none⟩) 1 1] (w.alloc (.cells #[.int .u8 7] 5)) fun e w' => ∃ p A' cap', e = .returned (.pointer (some ⟨p, 0, none⟩)) ∧ Rd p A' 1 cap' [7] 0 0 w' ∧ w.heap.size ≤ p ∧ Ev w w' :=
  (new_reader _ 1 1 [7] _ (Bs.made [7] #[.int .u8 7] rfl (by decide)) (by decide)).mono fun e w' ⟨p, A, cap, he, hR, hp, _, hE⟩ => ⟨p, A, cap, he, hR, by simp at hp; omega, (Ev.alloc _ _).trans hE⟩
theorem get_seven (p : Nat) (A : Option Addr) (cap : Nat) (w : World) (h : Rd p A 1 cap [7] 0 0 w) : Calls Try.prog 12 #[.pointer (some ⟨p, 0, none⟩)] w fun e w' => ∃ v, e = .returned v ∧ Rd p A 1 cap [7] 3 0 w' ∧ But [p] w w' :=
  (row_get w h).mono fun e w' ⟨v, he, _, _, hR, hB⟩ => by rw [rd_seven] at hR; exact ⟨v, he, hR, hB⟩
theorem end_seven (p : Nat) (A : Option Addr) (cap : Nat) (w : World) (h : Rd p A 1 cap [7] 3 0 w) : Calls Try.prog 13 #[.pointer (some ⟨p, 0, none⟩)] w fun e w' => e = .returned (.tuple #[.int .i64 3, .int .i64 0]) ∧ Ev w w' :=
  (reader_end w h).mono fun e w' ⟨he, hq⟩ => by rw [rdEnd_seven] at he; exact ⟨he, Ev.of_drewN hq⟩
theorem find_lit (w : World) : Calls Try.prog 14 #[.slice (some ⟨w.heap.size, 0, none⟩) 3 3, .string ⟨#[98]⟩] (w.alloc (.cells #[.string ⟨#[97]⟩, .int .i64 1, .string ⟨#[98]⟩, .int .i64 1, .string ⟨#[98]⟩, .int .i64 2] 23)) fun e w' => e = .returned (.tuple #[.int .i64 1, .bool true]) ∧ Ev w w' :=
  (row_find ⟨#[98]⟩ _ (Cs.made [(⟨#[97]⟩, 1), (⟨#[98]⟩, 1), (⟨#[98]⟩, 2)] 3 rfl (by decide) w _ rfl)).mono fun e w' ⟨he, hE⟩ => by rw [find_b] at he; exact ⟨he, (Ev.alloc _ _).trans hE⟩
theorem find_t_s (A : Option Addr) (n cap : Nat) (w : World) (h : Cs w A n cap tcols) : Calls Try.prog 14 #[.slice A n cap, .string ⟨#[115]⟩] w fun e w' => e = .returned (.tuple #[.int .i64 2, .bool true]) ∧ Ev w w' :=
  (row_find ⟨#[115]⟩ _ h).mono fun e w' ⟨he, hE⟩ => by rw [find_s] at he; exact ⟨he, hE⟩
theorem find_t_x (A : Option Addr) (n cap : Nat) (w : World) (h : Cs w A n cap tcols) : Calls Try.prog 14 #[.slice A n cap, .string ⟨#[120]⟩] w fun e w' => e = .returned (.tuple #[.int .i64 0, .bool false]) ∧ Ev w w' :=
  (row_find ⟨#[120]⟩ _ h).mono fun e w' ⟨he, hE⟩ => by rw [find_x] at he; exact ⟨he, hE⟩
theorem right_nil (w : World) : Calls Try.prog 15 #[.slice none 0 0] w fun e w' => e = .returned (.bool false) ∧ Ev w w' :=
  (row_right w (Sl.nil_ w)).mono fun e w' ⟨he, hE⟩ => ⟨he, hE⟩
theorem right_zero (w : World) : Calls Try.prog 15 #[.slice (some ⟨w.heap.size, 0, none⟩) 7 7] (w.alloc (.cells #[.int .i64 0, .int .i64 0, .string ⟨#[]⟩, .int .i64 0, .int .i64 0, .string ⟨#[]⟩, .int .i64 0, .int .i64 0, .string ⟨#[]⟩, .int .i64 0, .int .i64 0, .string ⟨#[]⟩, .int .i64 0, .int .i64 0, .string ⟨#[]⟩, .int .i64 0, .int .i64 0, .string ⟨#[]⟩, .int .i64 0, .int .i64 0, .string ⟨#[]⟩] 61)) fun e w' => e = .returned (.bool false) ∧ Ev w w' :=
  (row_right _ (Vs.made (List.replicate 7 (0, 0, ⟨#[]⟩)) 7 rfl (by decide) w _ rfl)).mono fun e w' ⟨he, hE⟩ => by rw [right_z] at he; exact ⟨he, (Ev.alloc _ _).trans hE⟩
theorem fits_nil (w : World) : Calls Try.prog 18 #[.slice none 0 0, .slice none 0 0] w fun e w' => e = .returned (.bool true) ∧ Ev w w' :=
  (row_fits w (Sl.nil_ w) (Sl.nil_ w)).mono fun e w' ⟨he, hE⟩ => ⟨he, hE⟩
theorem same_nil (w : World) : Calls Try.prog 19 #[.slice none 0 0, .slice none 0 0] w fun e w' => e = .returned (.bool false) ∧ Ev w w' :=
  (row_same w (Sl.nil_ w) (Sl.nil_ w)).mono fun e w' ⟨he, hE⟩ => ⟨he, hE⟩
theorem nums_7 (w : World) : Calls Try.prog 16 #[.slice (some ⟨w.heap.size, 0, none⟩) 7 7] (w.alloc (.cells #[.int .i64 1, .int .i64 2, .int .i64 3, .int .i64 4, .int .i64 5, .int .i64 6, .int .i64 7] 2)) fun e w' => ∃ A m cap, e = .returned (.slice A m cap) ∧ Vs w' A m cap ([1, 2, 3, 4, 5, 6, 7].map numV) ∧ Ev w w' := nums_lit [1, 2, 3, 4, 5, 6, 7] 7 rfl (by decide) w _ rfl
theorem nums_6 (w : World) : Calls Try.prog 16 #[.slice (some ⟨w.heap.size, 0, none⟩) 6 6] (w.alloc (.cells #[.int .i64 1, .int .i64 2, .int .i64 3, .int .i64 4, .int .i64 5, .int .i64 6] 2)) fun e w' => ∃ A m cap, e = .returned (.slice A m cap) ∧ Vs w' A m cap ([1, 2, 3, 4, 5, 6].map numV) ∧ Ev w w' := nums_lit [1, 2, 3, 4, 5, 6] 6 rfl (by decide) w _ rfl
theorem nums_1 (w : World) : Calls Try.prog 16 #[.slice (some ⟨w.heap.size, 0, none⟩) 1 1] (w.alloc (.cells #[.int .i64 1] 2)) fun e w' => ∃ A m cap, e = .returned (.slice A m cap) ∧ Vs w' A m cap ([1].map numV) ∧ Ev w w' := nums_lit [1] 1 rfl (by decide) w _ rfl

set_option maxRecDepth 100000 in
set_option maxHeartbeats 16000000 in
theorem rn_walk (w : World) : Calls Try.prog 3 #[] w fun e w' => e = .returned (.bool true) ∧ Ev w w' := by
  obtain ⟨W1, hW1, hH1, C1, E1⟩ : ∃ W', W' = w.alloc (.cells #[.string ⟨#[97]⟩, .int .i64 0] 23) ∧ W'.heap.size = w.heap.size + 1 ∧ Cs W' (some ⟨w.heap.size, 0, none⟩) 1 1 [(⟨#[97]⟩, 0)] ∧ Ev w W' := ⟨_, rfl, by simp, Cs.made [(⟨#[97]⟩, 0)] 1 rfl (by decide) w _ rfl, Ev.alloc _ _⟩
  obtain ⟨W2, hW2, hH2, C2, E2⟩ : ∃ W', W' = W1.alloc (.cells #[.string ⟨#[65]⟩, .int .i64 1] 23) ∧ W'.heap.size = w.heap.size + 1 + 1 ∧ Cs W' (some ⟨w.heap.size + 1, 0, none⟩) 1 1 [(⟨#[65]⟩, 1)] ∧ Ev W1 W' := ⟨_, rfl, by simp [hH1], hH1 ▸ Cs.made [(⟨#[65]⟩, 1)] 1 rfl (by decide) W1 _ rfl, Ev.alloc _ _⟩
  obtain ⟨W3, hW3, hH3, C3, E3⟩ : ∃ W', W' = W2.alloc (.cells #[.string ⟨#[97]⟩, .int .i64 1, .string ⟨#[97]⟩, .int .i64 2] 23) ∧ W'.heap.size = w.heap.size + 1 + 1 + 1 ∧ Cs W' (some ⟨w.heap.size + 1 + 1, 0, none⟩) 2 2 [(⟨#[97]⟩, 1), (⟨#[97]⟩, 2)] ∧ Ev W2 W' := ⟨_, rfl, by simp [hH2], hH2 ▸ Cs.made [(⟨#[97]⟩, 1), (⟨#[97]⟩, 2)] 2 rfl (by decide) W2 _ rfl, Ev.alloc _ _⟩
  obtain ⟨W4, hW4, hH4, C4, E4⟩ : ∃ W', W' = W3.alloc (.cells #[.string ⟨#[115, 117, 109]⟩, .int .i64 1] 23) ∧ W'.heap.size = w.heap.size + 1 + 1 + 1 + 1 ∧ Cs W' (some ⟨w.heap.size + 1 + 1 + 1, 0, none⟩) 1 1 [(⟨#[115, 117, 109]⟩, 1)] ∧ Ev W3 W' := ⟨_, rfl, by simp [hH3], hH3 ▸ Cs.made [(⟨#[115, 117, 109]⟩, 1)] 1 rfl (by decide) W3 _ rfl, Ev.alloc _ _⟩
  obtain ⟨W5, hW5, hH5, C5, E5⟩ : ∃ W', W' = W4.alloc (.cells #[.string ⟨#[]⟩, .int .i64 0, .string ⟨#[]⟩, .int .i64 0, .string ⟨#[]⟩, .int .i64 0, .string ⟨#[]⟩, .int .i64 0, .string ⟨#[]⟩, .int .i64 0, .string ⟨#[]⟩, .int .i64 0, .string ⟨#[]⟩, .int .i64 0] 23) ∧ W'.heap.size = w.heap.size + 1 + 1 + 1 + 1 + 1 ∧ Cs W' (some ⟨w.heap.size + 1 + 1 + 1 + 1, 0, none⟩) 7 7 (List.replicate 7 (⟨#[]⟩, 0)) ∧ Ev W4 W' := ⟨_, rfl, by simp [hH4], hH4 ▸ Cs.made (List.replicate 7 (⟨#[]⟩, 0)) 7 rfl (by decide) W4 _ rfl, Ev.alloc _ _⟩
  obtain ⟨W6, hW6, hH6, C6, E6⟩ : ∃ W', W' = W5.alloc (.cells #[.string ⟨#[97]⟩, .int .i64 3] 23) ∧ W'.heap.size = w.heap.size + 1 + 1 + 1 + 1 + 1 + 1 ∧ Cs W' (some ⟨w.heap.size + 1 + 1 + 1 + 1 + 1, 0, none⟩) 1 1 [(⟨#[97]⟩, 3)] ∧ Ev W5 W' := ⟨_, rfl, by simp [hH5], hH5 ▸ Cs.made [(⟨#[97]⟩, 3)] 1 rfl (by decide) W5 _ rfl, Ev.alloc _ _⟩
  obtain ⟨W7, hW7, hH7, C7, E7⟩ : ∃ W', W' = W6.alloc (.cells #[.string ⟨#[97]⟩, .int .i64 2, .string ⟨#[98]⟩, .int .i64 1] 23) ∧ W'.heap.size = w.heap.size + 1 + 1 + 1 + 1 + 1 + 1 + 1 ∧ Cs W' (some ⟨w.heap.size + 1 + 1 + 1 + 1 + 1 + 1, 0, none⟩) 2 2 [(⟨#[97]⟩, 2), (⟨#[98]⟩, 1)] ∧ Ev W6 W' := ⟨_, rfl, by simp [hH6], hH6 ▸ Cs.made [(⟨#[97]⟩, 2), (⟨#[98]⟩, 1)] 2 rfl (by decide) W6 _ rfl, Ev.alloc _ _⟩
  obtain ⟨W8, hW8⟩ : ∃ W', W' = W7.alloc (.cells #[.slice none 0 0, .slice (some ⟨w.heap.size, 0, none⟩) 1 1, .slice (some ⟨w.heap.size + 1, 0, none⟩) 1 1, .slice (some ⟨w.heap.size + 1 + 1, 0, none⟩) 2 2, .slice (some ⟨w.heap.size + 1 + 1 + 1, 0, none⟩) 1 1, .slice (some ⟨w.heap.size + 1 + 1 + 1 + 1, 0, none⟩) 7 7, .slice (some ⟨w.heap.size + 1 + 1 + 1 + 1 + 1, 0, none⟩) 1 1, .slice (some ⟨w.heap.size + 1 + 1 + 1 + 1 + 1 + 1, 0, none⟩) 2 2] 24) := ⟨_, rfl⟩
  have E8 : Ev W7 W8 := hW8 ▸ Ev.alloc _ _
  have hG : w.heap.size + 1 + 1 + 1 + 1 + 1 + 1 + 1 < W8.heap.size := by rw [hW8]; simp [hH7]
  have hcellG : ∀ k, W8.cell? ⟨w.heap.size + 1 + 1 + 1 + 1 + 1 + 1 + 1, k, none⟩ = (#[.slice none 0 0, .slice (some ⟨w.heap.size, 0, none⟩) 1 1, .slice (some ⟨w.heap.size + 1, 0, none⟩) 1 1, .slice (some ⟨w.heap.size + 1 + 1, 0, none⟩) 2 2, .slice (some ⟨w.heap.size + 1 + 1 + 1, 0, none⟩) 1 1, .slice (some ⟨w.heap.size + 1 + 1 + 1 + 1, 0, none⟩) 7 7, .slice (some ⟨w.heap.size + 1 + 1 + 1 + 1 + 1, 0, none⟩) 1 1, .slice (some ⟨w.heap.size + 1 + 1 + 1 + 1 + 1 + 1, 0, none⟩) 2 2] : Array Value)[k]? := fun k => by rw [hW8, ← hH7]; exact Lib.cell_of_heap (heap_alloc_new W7 _) k
  have hout : ∀ k, k < 8 → ∃ A n cap l, W8.cell? ⟨w.heap.size + 1 + 1 + 1 + 1 + 1 + 1 + 1, k, none⟩ = some (.slice A n cap) ∧ Cs W8 A n cap l ∧ (∀ y ∈ l, y.1.size ≤ maxLen) := fun k hk => by
    have hkk : k = 0 ∨ k = 1 ∨ k = 2 ∨ k = 3 ∨ k = 4 ∨ k = 5 ∨ k = 6 ∨ k = 7 := by omega
    rcases hkk with rfl | rfl | rfl | rfl | rfl | rfl | rfl | rfl
    · exact ⟨_, _, _, [], hcellG 0, Sl.nil_ _, fun y hy => by cases hy⟩
    · exact ⟨_, _, _, _, hcellG 1, (((((((C1.ev E2).ev E3).ev E4).ev E5).ev E6).ev E7).ev E8), small_names (by decide +kernel)⟩
    · exact ⟨_, _, _, _, hcellG 2, ((((((C2.ev E3).ev E4).ev E5).ev E6).ev E7).ev E8), small_names (by decide +kernel)⟩
    · exact ⟨_, _, _, _, hcellG 3, (((((C3.ev E4).ev E5).ev E6).ev E7).ev E8), small_names (by decide +kernel)⟩
    · exact ⟨_, _, _, _, hcellG 4, ((((C4.ev E5).ev E6).ev E7).ev E8), small_names (by decide +kernel)⟩
    · exact ⟨_, _, _, _, hcellG 5, (((C5.ev E6).ev E7).ev E8), small_names (by decide +kernel)⟩
    · exact ⟨_, _, _, _, hcellG 6, ((C6.ev E7).ev E8), small_names (by decide +kernel)⟩
    · exact ⟨_, _, _, _, hcellG 7, (C7.ev E8), small_names (by decide +kernel)⟩
  have EW : Ev w W8 := (((((((E1.trans E2).trans E3).trans E4).trans E5).trans E6).trans E7).trans E8)
  have hmk1 := make_cols
  have hmk2 := make_row
  have HCo := Lib.hid (fun A n cap l w1 (h : Cs w1 A n cap l) => row_columns w1 h)
  have HCr := Lib.hid (fun A n cap l w1 (h : Cs w1 A n cap l) hS => ref5_columns w1 h hS)
  have HM := Lib.hid (fun s w1 => row_name s w1)
  have HMr := Lib.hid (fun s w1 hs => ref5_name s w1 hs)
  go_enter Try.func3, Try.ntmps3
  go_upto_region 2 with fail
  rw [← hW1, ← hW2, ← hW3, ← hW4, ← hW5, ← hW6, ← hW7, ← hW8]
  clear hW1 hH1 C1 E1 hW2 hH2 C2 E2 hW3 hH3 C3 E3 hW4 hH4 C4 E4 hW5 hH5 C5 E5 hW6 hH6 C6 E6 hW7 hH7 C7 E7 hW8 E8 hcellG
  generalize w.heap.size + 1 + 1 + 1 + 1 + 1 + 1 + 1 = G at *
  go_loopw [31] (fun i wr => ∃ k : Nat, k ≤ 8 ∧ i = .int .i64 (k : Int) ∧ Ev W8 wr) (fun i _ => 8 - (intOf i).toNat)
  case atStart => exact ⟨0, Nat.zero_le _, rfl, Ev.refl _⟩
  case round =>
    obtain ⟨k, hk, rfl, hE⟩ := hrel
    by_cases hlt : k < 8
    · obtain ⟨A, n, cap, l, hc, hcs, hnm⟩ := hout k hlt
      replace hc := (hE.cell (p := ⟨G, k, none⟩) hG).trans hc
      replace hcs := hcs.ev hE
      have HC1 := Lib.hid (HCo.out A n cap l wr hcs)
      have HC2 := Lib.hid (fun w1 (h : Ev wr w1) => HCr.out A n cap l w1 (hcs.ev h) hnm)
      generalize colsV l = cv at *
      clear hout hcs hnm
      have i1 : (0 : Int) ≤ (k : Int) := by omega
      have i2 : (k : Int) < 8 := by omega
      go_wp2_with (first | ((with_reducible refine HC1.out.mono ?_); rintro x w1 ⟨rfl, hE1⟩) | ((with_reducible refine (HC2.out _ hE1).mono ?_); rintro x w2 ⟨rfl, hE2⟩))
      go_roundw
      case rel => exact ⟨k + 1, by omega, by go_num, (hE.trans hE1).trans hE2⟩
      case measure => simp [intOf]; omega
    · have hke : ¬ (k : Int) < 8 := by omega
      have EV := EW.trans hE
      clear hout hG EW hE HCo HCr
      obtain ⟨V1, hV1⟩ : ∃ W', W' = wr.alloc (.cells #[.string ⟨#[]⟩, .string ⟨#[97]⟩, .string ⟨#[97, 98, 99, 100, 101, 102, 103, 104, 105, 106, 107, 108]⟩, .string ⟨#[97, 98, 99, 100, 101, 102, 103, 104, 105, 106, 107, 108, 109]⟩, .string ⟨#[97, 66]⟩, .string ⟨#[105, 102]⟩, .string ⟨#[105, 102, 102]⟩, .string ⟨#[110, 101, 103]⟩, .string ⟨#[100, 105, 115, 116, 105, 110, 99, 116]⟩, .string ⟨#[97, 32, 98]⟩, .string ⟨#[97, 49]⟩] 9) := ⟨_, rfl⟩
      have F1 : Ev wr V1 := hV1 ▸ Ev.alloc _ _
      have hG : wr.heap.size < V1.heap.size := by rw [hV1]; simp
      have hcellG : ∀ k, V1.cell? ⟨wr.heap.size, k, none⟩ = (#[.string ⟨#[]⟩, .string ⟨#[97]⟩, .string ⟨#[97, 98, 99, 100, 101, 102, 103, 104, 105, 106, 107, 108]⟩, .string ⟨#[97, 98, 99, 100, 101, 102, 103, 104, 105, 106, 107, 108, 109]⟩, .string ⟨#[97, 66]⟩, .string ⟨#[105, 102]⟩, .string ⟨#[105, 102, 102]⟩, .string ⟨#[110, 101, 103]⟩, .string ⟨#[100, 105, 115, 116, 105, 110, 99, 116]⟩, .string ⟨#[97, 32, 98]⟩, .string ⟨#[97, 49]⟩] : Array Value)[k]? := fun k => by rw [hV1]; exact Lib.cell_of_heap (heap_alloc_new wr _) k
      have hout : ∀ k, k < 11 → ∃ s : ByteArray, V1.cell? ⟨wr.heap.size, k, none⟩ = some (.string s) ∧ s.size ≤ maxLen := fun k hk => by
        have hkk : k = 0 ∨ k = 1 ∨ k = 2 ∨ k = 3 ∨ k = 4 ∨ k = 5 ∨ k = 6 ∨ k = 7 ∨ k = 8 ∨ k = 9 ∨ k = 10 := by omega
        rcases hkk with rfl | rfl | rfl | rfl | rfl | rfl | rfl | rfl | rfl | rfl | rfl
        · exact ⟨_, hcellG 0, by decide +kernel⟩
        · exact ⟨_, hcellG 1, by decide +kernel⟩
        · exact ⟨_, hcellG 2, by decide +kernel⟩
        · exact ⟨_, hcellG 3, by decide +kernel⟩
        · exact ⟨_, hcellG 4, by decide +kernel⟩
        · exact ⟨_, hcellG 5, by decide +kernel⟩
        · exact ⟨_, hcellG 6, by decide +kernel⟩
        · exact ⟨_, hcellG 7, by decide +kernel⟩
        · exact ⟨_, hcellG 8, by decide +kernel⟩
        · exact ⟨_, hcellG 9, by decide +kernel⟩
        · exact ⟨_, hcellG 10, by decide +kernel⟩
      go_upto_region 8 with fail
      rw [← hV1]
      have EV1 := EV.trans F1
      clear hV1 hcellG F1 EV
      generalize wr.heap.size = G2 at *
      go_loopw [43] (fun i wr => ∃ k : Nat, k ≤ 11 ∧ i = .int .i64 (k : Int) ∧ Ev V1 wr) (fun i _ => 11 - (intOf i).toNat)
      case atStart => exact ⟨0, Nat.zero_le _, rfl, Ev.refl _⟩
      case round =>
        obtain ⟨k2, hk2, rfl, hE⟩ := hrel
        by_cases hlt : k2 < 11
        · obtain ⟨s, hc, hs⟩ := hout k2 hlt
          replace hc := (hE.cell (p := ⟨G2, k2, none⟩) hG).trans hc
          have HC1 := Lib.hid (fun w1 => HM.out s w1)
          have HC2 := Lib.hid (fun w1 => HMr.out s w1 hs)
          generalize nameV s = nv at *
          clear hout hs
          have i1 : (0 : Int) ≤ (k2 : Int) := by omega
          have i2 : (k2 : Int) < 11 := by omega
          go_wp2_with (first | ((with_reducible refine (HC1.out _).mono ?_); rintro x w1 ⟨rfl, hE1⟩) | ((with_reducible refine (HC2.out _).mono ?_); rintro x w2 ⟨rfl, hE2⟩))
          go_roundw
          case rel => exact ⟨k2 + 1, by omega, by go_num, (hE.trans hE1).trans hE2⟩
          case measure => simp [intOf]; omega
        · have hke2 : ¬ (k2 : Int) < 11 := by omega
          have EU := EV1.trans hE
          clear hout hG EV1 hE HM HMr
          have HN := Lib.hid new_seven
          have HG := Lib.hid get_seven
          have HE := Lib.hid end_seven
          have HF1 := Lib.hid find_lit
          have HN7 := Lib.hid nums_7
          have HN6 := Lib.hid nums_6
          have HN1 := Lib.hid nums_1
          have HR7 := fun A n cap w (h : Vs w A n cap ([1, 2, 3, 4, 5, 6, 7].map numV)) => row_right w h
          rw [right_7] at HR7
          have HR7 := Lib.hid HR7
          have HR6 := fun A n cap w (h : Vs w A n cap ([1, 2, 3, 4, 5, 6].map numV)) => row_right w h
          rw [right_6] at HR6
          have HR6 := Lib.hid HR6
          have HT := Lib.hid (fun w => keep_t w)
          have HFs := Lib.hid find_t_s
          have HFx := Lib.hid find_t_x
          have HR0 := Lib.hid right_nil
          have HRz := Lib.hid right_zero
          have HF0 := Lib.hid fits_nil
          have HS1 := fun A n cap B m cap' w (h : Vs w A n cap ([1].map numV)) (h' : Vs w B m cap' ([1].map numV)) => row_same w h h'
          rw [same_11] at HS1
          have HS1 := Lib.hid HS1
          have HS0 := Lib.hid same_nil
          have HK := Lib.hid (fun w => known_any w)
          clear hmk1
          go_wp2_with (first
            | ((with_reducible refine (HN.out _).mono ?_); rintro y_ wa ⟨pa, Aa, capa, rfl, hRa, hpa, hEa⟩)
            | ((with_reducible refine (HG.out _ _ _ wa hRa).mono ?_); rintro y_ wb ⟨vb, rfl, hRb, hBb⟩; replace EU := EU.trans (But.new1 hEa hpa hBb))
            | ((with_reducible refine (HE.out _ _ _ wb hRb).mono ?_); rintro y_ wz ⟨rfl, hEz⟩; replace EU := EU.trans hEz)
            | ((with_reducible refine (HF1.out _).mono ?_); rintro y_ wz ⟨rfl, hEz⟩; replace EU := EU.trans hEz)
            | ((with_reducible refine (HN7.out _).mono ?_); rintro y_ wz ⟨A7, n7, cap7, rfl, hV7, hEz⟩; replace EU := EU.trans hEz)
            | ((with_reducible refine (HR7.out _ _ _ _ hV7).mono ?_); rintro y_ wz ⟨rfl, hEz⟩; replace EU := EU.trans hEz)
            | ((with_reducible refine (HT.out _).mono ?_); rintro y_ wz ⟨rfl, hCt, hEz⟩; replace EU := EU.trans hEz)
            | ((with_reducible refine (HFs.out _ _ _ _ hCt).mono ?_); rintro y_ wz ⟨rfl, hEz⟩; replace EU := EU.trans hEz)
            | ((with_reducible refine (HFx.out _ _ _ _ hCt).mono ?_); rintro y_ wz ⟨rfl, hEz⟩; replace EU := EU.trans hEz)
            | ((with_reducible refine (HR0.out _).mono ?_); rintro y_ wz ⟨rfl, hEz⟩; replace EU := EU.trans hEz)
            | ((with_reducible refine (HRz.out _).mono ?_); rintro y_ wz ⟨rfl, hEz⟩; replace EU := EU.trans hEz)
            | ((with_reducible refine (HN6.out _).mono ?_); rintro y_ wz ⟨A6, n6, cap6, rfl, hV6, hEz⟩; replace EU := EU.trans hEz)
            | ((with_reducible refine (HR6.out _ _ _ _ hV6).mono ?_); rintro y_ wz ⟨rfl, hEz⟩; replace EU := EU.trans hEz)
            | ((with_reducible refine (HF0.out _).mono ?_); rintro y_ wz ⟨rfl, hEz⟩; replace EU := EU.trans hEz)
            | ((with_reducible refine (HN1.out _).mono ?_); have hVo := hVa; rintro y_ wz ⟨Ab, nb, capb, rfl, hVb, hEz⟩; have hVa2 := hVo.ev hEz; replace EU := EU.trans hEz)
            | ((with_reducible refine (HN1.out _).mono ?_); rintro y_ wz ⟨Aa1, na1, capa1, rfl, hVa, hEz⟩; replace EU := EU.trans hEz)
            | ((with_reducible refine (HS1.out _ _ _ _ _ _ _ hVa2 hVb).mono ?_); rintro y_ wz ⟨rfl, hEz⟩; replace EU := EU.trans hEz)
            | ((with_reducible refine (HS0.out _).mono ?_); rintro y_ wz ⟨rfl, hEz⟩; replace EU := EU.trans hEz)
            | ((with_reducible refine (HK.out _).mono ?_); rintro y_ wz ⟨rfl, hEz⟩; replace EU := EU.trans hEz))
          go_ret
          exact ⟨rfl, EU⟩
end Go.Proofs.Ytkjodlngpdihhaa
