/-
  Chapter 5's runs ('known').
-/
import Derived.Test.YtkjodlngpdihhaaKeep5
import Derived.Test.YtkjodlngpdihhaaRowC
namespace Go.Proofs.Ytkjodlngpdihhaa
open Go.RowKit
set_option linter.unusedVariables false

theorem Is.made (l : List Int) (n : Nat) (hn : l.length = n) (hm : n ≤ 1000) (w : World) (cs : Array Value) (hc : cs = (l.map fun x => Value.int .i64 x).toArray) : Is (w.alloc (.cells cs 2)) (some ⟨w.heap.size, 0, none⟩) n n l :=
  ⟨hn, Nat.le_refl _, by omega, by simp, fun _ => ⟨w.heap.size, 0, rfl, by simp, fun i x hx j u hu => by
    have hi := (List.getElem?_eq_some_iff.1 hx).1
    have hj : j = 0 := by have := (List.getElem?_eq_some_iff.1 hu).1; simp at this; omega
    subst hj
    rw [Lib.cell_of_heap (heap_alloc_new w _), hc, List.getElem?_toArray, List.getElem?_map]
    rw [Nat.mul_one, Nat.zero_add, Nat.add_zero, hx]
    simpa using hu⟩⟩
theorem Cs.made_one (w : World) (s : ByteArray) (k : Int) : Cs (w.alloc (.cells #[.string s, .int .i64 k] 23)) (some ⟨w.heap.size, 0, none⟩) 1 1 [(s, k)] :=
  ⟨rfl, Nat.le_refl _, by omega, by simp, fun _ => ⟨w.heap.size, 0, rfl, by simp, fun i x hx j u hu => by
    have hi : i = 0 := by have := (List.getElem?_eq_some_iff.1 hx).1; simp at this; omega
    subst hi
    simp at hx
    subst hx
    rw [Lib.cell_of_heap (heap_alloc_new w _)]
    simpa [ccells] using hu⟩⟩
/-- A literal's numbers as a row. -/
theorem nums_lit (l : List Int) (n : Nat) (hn : l.length = n) (hm : n ≤ 1000) (w : World) (cs : Array Value) (hc : cs = (l.map fun x => Value.int .i64 x).toArray) :
    Calls Try.prog 16 #[.slice (some ⟨w.heap.size, 0, none⟩) n n] (w.alloc (.cells cs 2)) fun e w' => ∃ A m cap, e = .returned (.slice A m cap) ∧ Vs w' A m cap (l.map numV) ∧ Ev w w' :=
  (keep_nums _ (Is.made l n hn hm w cs hc) hm).mono fun e w' ⟨v, he, hv, _, hE⟩ => by
    obtain ⟨A, cap, rfl, hvs, _⟩ := hv.vs
    exact ⟨A, _, cap, he, hvs, (Ev.alloc _ _).trans hE⟩

theorem known_less1 : lessR ([1].map numV) ([1, 2].map numV) = true := by simp [lessR, rightR, okR, rightV, lessL, numV]
theorem known_less2 : lessR ([2].map numV) ([1, 2].map numV) = false := by simp [lessR, rightR, okR, rightV, lessL, lessV, numV]
theorem known_fits : fitsL [(⟨#[97]⟩, 1)] [(2, 0, ⟨#[120]⟩)] = false := by simp [fitsL]
theorem known_name1 : nameV ⟨#[97]⟩ = true := by decide +kernel
theorem known_name2 : nameV ⟨#[116, 97, 98, 108, 101]⟩ = false := by decide +kernel

set_option maxRecDepth 100000 in
set_option maxHeartbeats 4000000 in
theorem known_any (w : World) :
    Calls Try.prog 20 #[] w fun e w' => e = .returned (.bool true) ∧ Ev w w' := by
  have HN1 : Hid (∀ w, Calls Try.prog 16 #[.slice (some ⟨w.heap.size, 0, none⟩) 1 1] (w.alloc (.cells #[.int .i64 1] 2)) fun e w' => ∃ A m cap, e = .returned (.slice A m cap) ∧ Vs w' A m cap ([1].map numV) ∧ Ev w w') := Lib.hid fun w => nums_lit [1] 1 rfl (by decide) w _ rfl
  have HN2 : Hid (∀ w, Calls Try.prog 16 #[.slice (some ⟨w.heap.size, 0, none⟩) 1 1] (w.alloc (.cells #[.int .i64 2] 2)) fun e w' => ∃ A m cap, e = .returned (.slice A m cap) ∧ Vs w' A m cap ([2].map numV) ∧ Ev w w') := Lib.hid fun w => nums_lit [2] 1 rfl (by decide) w _ rfl
  have HN12 : Hid (∀ w, Calls Try.prog 16 #[.slice (some ⟨w.heap.size, 0, none⟩) 2 2] (w.alloc (.cells #[.int .i64 1, .int .i64 2] 2)) fun e w' => ∃ A m cap, e = .returned (.slice A m cap) ∧ Vs w' A m cap ([1, 2].map numV) ∧ Ev w w') := Lib.hid fun w => nums_lit [1, 2] 2 rfl (by decide) w _ rfl
  have HL1 := fun A n cap B m cap' w (h : Vs w A n cap ([1].map numV)) (h' : Vs w B m cap' ([1, 2].map numV)) => row_less w h h'
  rw [known_less1] at HL1
  have HL1 := Lib.hid HL1
  have HL2 := fun A n cap B m cap' w (h : Vs w A n cap ([2].map numV)) (h' : Vs w B m cap' ([1, 2].map numV)) => row_less w h h'
  rw [known_less2] at HL2
  have HL2 := Lib.hid HL2
  have HS := Lib.hid (fun w => keep_str ⟨#[120]⟩ w)
  have HF := fun A n cap B m cap' w (h : Cs w A n cap [(⟨#[97]⟩, 1)]) (h' : Vs w B m cap' [(2, 0, ⟨#[120]⟩)]) => row_fits w h h'
  rw [known_fits] at HF
  have HF := Lib.hid HF
  have HM1 := fun w => row_name ⟨#[97]⟩ w
  rw [known_name1] at HM1
  have HM1 := Lib.hid HM1
  have HM2 := fun w => row_name ⟨#[116, 97, 98, 108, 101]⟩ w
  rw [known_name2] at HM2
  have HM2 := Lib.hid HM2
  go_enter Try.func20, Try.ntmps20
  go_wp2_with (first
    | ((with_reducible refine (HN1.out w).mono ?_); rintro x w1 ⟨A1, n1, cap1, rfl, hV1, hE1⟩)
    | ((with_reducible refine (HN12.out w1).mono ?_); rintro x w2 ⟨A2, n2, cap2, rfl, hV2, hE2⟩)
    | ((with_reducible refine (HL1.out _ _ _ _ _ _ w2 (hV1.ev hE2) hV2).mono ?_); rintro x w3 ⟨rfl, hE3⟩)
    | ((with_reducible refine (HN2.out w3).mono ?_); rintro x w4 ⟨A4, n4, cap4, rfl, hV4, hE4⟩)
    | ((with_reducible refine (HN12.out w4).mono ?_); rintro x w5 ⟨A5, n5, cap5, rfl, hV5, hE5⟩)
    | ((with_reducible refine (HL2.out _ _ _ _ _ _ w5 (hV4.ev hE5) hV5).mono ?_); rintro x w6 ⟨rfl, hE6⟩; have hC6 := Cs.made_one w6 ⟨#[97]⟩ 1)
    | ((with_reducible refine (HS.out _).mono ?_); rintro x w7 ⟨rfl, hE7⟩; have hC7 := (hC6.ev hE7).ev (Ev.alloc w7 (.cells #[.int .i64 2, .int .i64 0, .string ⟨#[120]⟩] 61)); have hV7 := Vs.made_one w7 2 0 ⟨#[120]⟩)
    | ((with_reducible refine (HF.out _ _ _ _ _ _ _ hC7 hV7).mono ?_); rintro x w8 ⟨rfl, hE8⟩)
    | ((with_reducible refine (HM1.out w8).mono ?_); rintro x w9 ⟨rfl, hE9⟩)
    | ((with_reducible refine (HM2.out w9).mono ?_); rintro x w10 ⟨rfl, hE10⟩))
  go_ret
  exact ⟨rfl, ((((((((((hE1.trans hE2).trans hE3).trans hE4).trans hE5).trans hE6).trans (Ev.alloc _ _)).trans hE7).trans (Ev.alloc _ _)).trans hE8).trans hE9).trans hE10⟩
end Go.Proofs.Ytkjodlngpdihhaa
