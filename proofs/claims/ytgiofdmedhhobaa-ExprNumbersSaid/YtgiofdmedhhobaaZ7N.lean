/-
  Texts that belong together: Package sexp: numbers.
-/
import Derived.Test.YtgiofdmedhhobaaShelf
import Derived.Lib.ConvBytes
import Derived.Lib.AtoiErrMem
import Derived.Test.YtgiofdmedhhobaaZ5N
namespace Go.Proofs.Ytgiofdmedhhobaa
open Go.RowKit
set_option linter.unusedVariables false

/-- A token as a value. -/
def tkc (x : Tk) : Array Value := #[.int .i64 x.kind, .string ⟨x.s.toArray⟩, .int .i64 x.n, .slice none 0 0, .int .i64 0, .int .i64 x.size, .int .i64 x.why, .int .i64 x.fault]
def tkv (x : Tk) : Value := .agg (tkc x)
def tkRaw (k n z y f : Int) (s : ByteArray) : Array Value := #[.int .i64 k, .string s, .int .i64 n, .slice none 0 0, .int .i64 0, .int .i64 z, .int .i64 y, .int .i64 f]
def tkSet (g : Nat) (k n z y f : Int) (s : ByteArray) (w : World) : World :=
  (((((((w.setCell ⟨g, 0, none⟩ (.int .i64 k)).setCell ⟨g, 1, none⟩ (.string s)).setCell ⟨g, 2, none⟩ (.int .i64 n)).setCell ⟨g, 3, none⟩ (.slice none 0 0)).setCell ⟨g, 4, none⟩ (.int .i64 0)).setCell ⟨g, 5, none⟩ (.int .i64 z)).setCell ⟨g, 6, none⟩ (.int .i64 y)).setCell ⟨g, 7, none⟩ (.int .i64 f)
theorem tkSet_fold (g : Nat) (k n z y f : Int) (s : ByteArray) (w : World) :
  (((((((w.setCell ⟨g, 0, none⟩ (.int .i64 k)).setCell ⟨g, 1, none⟩ (.string s)).setCell ⟨g, 2, none⟩ (.int .i64 n)).setCell ⟨g, 3, none⟩ (.slice none 0 0)).setCell ⟨g, 4, none⟩ (.int .i64 0)).setCell ⟨g, 5, none⟩ (.int .i64 z)).setCell ⟨g, 6, none⟩ (.int .i64 y)).setCell ⟨g, 7, none⟩ (.int .i64 f) = tkSet g k n z y f s w := rfl
theorem tkSet_but (g : Nat) (k n z y f : Int) (s : ByteArray) (w : World) : But [g] w (tkSet g k n z y f s w) :=
  (((((((But.setCell ⟨g, 0, none⟩ _ (by simp)).then (But.setCell ⟨g, 1, none⟩ _ (by simp))).then (But.setCell ⟨g, 2, none⟩ _ (by simp))).then (But.setCell ⟨g, 3, none⟩ _ (by simp))).then (But.setCell ⟨g, 4, none⟩ _ (by simp))).then (But.setCell ⟨g, 5, none⟩ _ (by simp))).then (But.setCell ⟨g, 6, none⟩ _ (by simp))).then (But.setCell ⟨g, 7, none⟩ _ (by simp))
theorem Ev.over1 {w w1 w2 : World} {g : Nat} (h : Ev w w1) (k : But [g] w1 w2) (hg : w.heap.size ≤ g) : Ev w w2 :=
  ((But.of_ev (K := [g]) h).then k).ev (by simpa using hg)
theorem sxBelow_step (l : By) (k : Nat) (x : UInt8) (n : Int) (h : l[k]? = some x) : sxBelow (l.drop k) n = if n < -((9223372036854775808 - ((x.toNat : Int) - 48)) / 10) then none else sxBelow (l.drop (k + 1)) (n * 10 - ((x.toNat : Int) - 48)) := by
  obtain ⟨hk, e⟩ := List.getElem?_eq_some_iff.1 h
  rw [List.drop_eq_getElem_cons hk, e]
  rfl

theorem sxBelow_range : ∀ (l : By), (∀ c ∈ l, sxDigit c = true) → ∀ n m : Int, -9223372036854775808 ≤ n → n ≤ 0 → sxBelow l n = some m → -9223372036854775808 ≤ m ∧ m ≤ 0
  | [], _, n, m, h1, h2, h => by
    simp [sxBelow] at h
    omega
  | c :: l, hd, n, m, h1, h2, h => by
    unfold sxBelow at h
    have hc := hd c (List.mem_cons_self ..)
    unfold sxDigit at hc
    simp at hc
    split at h
    · cases h
    · exact sxBelow_range l (fun x hx => hd x (List.mem_cons_of_mem _ hx)) _ m (by omega) (by omega) h
theorem sx_list_eq (s : ByteArray) (l : By) (h : s.data.toList = l) : s = ⟨l.toArray⟩ := by
  cases s
  simp at h
  rw [← h]
theorem sx_empty (s : ByteArray) : s.data.toList = [] ↔ s = ⟨#[]⟩ := by
  cases s
  simp
theorem sxDigits_all (l : By) : ∀ c ∈ sxDigits l, sxDigit c = true := sxRun_all sxDigit l
theorem sxDigits_len (l : By) : (sxDigits l).length = sxRun sxDigit l := by
  unfold sxDigits
  rw [List.length_take]
  have := sxRun_le sxDigit l
  omega

end Go.Proofs.Ytgiofdmedhhobaa
