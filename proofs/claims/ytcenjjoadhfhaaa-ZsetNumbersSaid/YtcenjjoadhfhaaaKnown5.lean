/-
  Chapter 5's runs ('known').
-/
import Derived.Test.YtcenjjoadhfhaaaKeep5
import Derived.Test.YtcenjjoadhfhaaaRowC
namespace Go.Proofs.Ytcenjjoadhfhaaa
open Go.RowKit
set_option linter.unusedVariables false

theorem Is.made (l : List Int) (n : Nat) (hn : l.length = n) (hm : n ≤ 1000) (w : World) (cs : Array Value) (hc : cs = (l.map fun x => Value.int .i64 x).toArray) : Is (w.alloc (.cells cs 2)) (some ⟨w.heap.size, 0, none⟩) n n l :=
  ⟨hn, Nat.le_refl _, by omega, by simp, fun _ => ⟨w.heap.size, 0, rfl, by simp, fun i x hx j u hu => by
    have hi := (List.getElem?_eq_some_iff.1 hx).1
    have hj : j = 0 := by have := (List.getElem?_eq_some_iff.1 hu).1; simp at this; omega
    subst hj
    rw [Lib.cell_of_heap (heap_alloc_new w _), hc, List.getElem?_toArray, List.getElem?_map]
    rw [Nat.mul_one, Nat.zero_add, Nat.add_zero, hx]
    simpa using hu⟩⟩
/-- A literal's numbers as a row. -/
theorem nums_lit (l : List Int) (n : Nat) (hn : l.length = n) (hm : n ≤ 1000) (w : World) (cs : Array Value) (hc : cs = (l.map fun x => Value.int .i64 x).toArray) :
    Calls Try.prog 5 #[.slice (some ⟨w.heap.size, 0, none⟩) n n] (w.alloc (.cells cs 2)) fun e w' => ∃ A m cap, e = .returned (.slice A m cap) ∧ Vs w' A m cap (l.map numV) ∧ Ev w w' :=
  (keep_nums _ (Is.made l n hn hm w cs hc) hm).mono fun e w' ⟨v, he, hv, _, hE⟩ => by
    obtain ⟨A, cap, rfl, hvs, _⟩ := hv.vs
    exact ⟨A, _, cap, he, hvs, (Ev.alloc _ _).trans hE⟩

theorem known_less1 : lessR ([1].map numV) ([1, 2].map numV) = true := by simp [lessR, rightR, okR, rightV, lessL, numV]
theorem known_less2 : lessR ([2].map numV) ([1, 2].map numV) = false := by simp [lessR, rightR, okR, rightV, lessL, lessV, numV]
theorem known_fits : fitsL [(⟨#[97]⟩, 1)] [(2, 0, ⟨#[120]⟩)] = false := by simp [fitsL]
theorem known_name1 : nameV ⟨#[97]⟩ = true := by decide +kernel
theorem known_name2 : nameV ⟨#[116, 97, 98, 108, 101]⟩ = false := by decide +kernel

end Go.Proofs.Ytcenjjoadhfhaaa
