/-
  Texts that belong together: The contracts of wire's Writer: what each method writes, and which blocks it may turn.
-/
import Derived.Test.YtojbahjebfcmgaaGreatDoorProg
import Derived.BigQuiet
import Derived.Deep.QuietTactic
import Derived.Test.YtojbahjebfcmgaaGreatDoorZ3W
namespace Go.Proofs.YtojbahjebfcmgaaGreatDoor
open Go.RowKit
set_option linter.unusedVariables false

theorem Tryz.infoU8 : (Tryz.prog.info? 5).map (fun i => (i.zero, i.size, i.bytes)) = some (some (.int .u8 0), 1, 1) := by kernel_rfl

/-- The k lowest bytes of n, the lowest first. -/
def le : Nat → Nat → List UInt8
  | 0, _ => []
  | k + 1, n => UInt8.ofNat n :: le k (n / 256)
/-- What a write may do: it turns the Writer's block and its row; the row may spring. -/
structure Wrote (p : Nat) (v : Value) (w : World) (v' : Value) (w' : World) : Prop where
  but : But (p :: foot v) w w'
  sprung : Sprung w v v'
theorem Wrote.refl (p : Nat) (v : Value) (w : World) : Wrote p v w v w := ⟨But.refl _ _, Sprung.refl _ _⟩
theorem Wrote.trans {p : Nat} {a b c : Value} {w w1 w2 : World} (h : Wrote p a w b w1) (k : Wrote p b w1 c w2) : Wrote p a w c w2 :=
  ⟨h.but.trans k.but fun x hx => by
    rcases List.mem_cons.1 hx with rfl | hx
    · exact .inl (by simp)
    · rcases h.sprung x (mem_foot.1 hx) with h1 | h1
      · exact .inl (List.mem_cons_of_mem _ (mem_foot.2 h1))
      · exact .inr h1, h.sprung.trans k.sprung h.but.size⟩
/-- A byte that is laid by itself, as the source of an append. -/
theorem Bs.made {w : World} (l : List UInt8) (cs : Array Value) (h : cs = (bvs l).toArray) (hl : l.length ≤ 1000) : Bs (w.alloc (.cells cs 5)) (some ⟨w.heap.size, 0, none⟩) l.length l.length l := by
  subst h
  refine ⟨rfl, Nat.le_refl _, by omega, by simp, fun _ => ⟨_, 0, rfl, by simp, fun i hi => ?_⟩⟩
  rw [cell_of_row _ _ _ (bvs l).toArray 5 (0, 0) (heap_alloc_new w _)]
  rw [Nat.zero_add, List.getElem?_toArray]
  exact bvs_at hi
theorem Sprung.old {w w1 : World} {v v' : Value} (h : Sprung w1 v v') (hs : w.heap.size ≤ w1.heap.size) : Sprung w v v' := fun g hg => (h g hg).imp_right fun h1 => by omega

/-- The low bits of an integer, as a number. -/
def low (x : Int) : Nat := (x % 18446744073709551616).toNat
end Go.Proofs.YtojbahjebfcmgaaGreatDoor
