/-
  Words for memory: a slice of structs (k cells an element) that reads as a list, and what keeps it; rows of Values and lists of columns.
-/
import Derived.Test.YtjffppfgappikaaVal
import Derived.Test.YtjffppfgappikaaArg
import Derived.Test.YtjffppfgappikaaRegion
import Derived.BigQuiet
import Derived.Deep.QuietTactic
namespace Go.Proofs.Ytjffppfgappikaa
open Go.RowKit
set_option linter.unusedVariables false

/-- The slice (A, n, cap) holds the elements l, each of k cells as enc tells. -/
structure Sl {α : Type} (k : Nat) (enc : α → List Value) (w : World) (A : Option Addr) (n cap : Nat) (l : List α) : Prop where
  len : l.length = n
  le : n ≤ cap
  max : cap ≤ 9223372036854775807
  nil : A = none → n = 0 ∧ cap = 0
  rd : 0 < n → ∃ b off, A = some ⟨b, off, none⟩ ∧ b < w.heap.size ∧ ∀ i x, l[i]? = some x → ∀ j u, (enc x)[j]? = some u → w.cell? ⟨b, off + i * k + j, none⟩ = some u

section
variable {α : Type} {k : Nat} {enc : α → List Value} {w w' : World} {A : Option Addr} {n cap : Nat} {l : List α}
theorem Sl.below (h : Sl k enc w A n cap l) (hb : Below w.heap.size w w') : Sl k enc w' A n cap l :=
  ⟨h.len, h.le, h.max, h.nil, fun hn => by
    obtain ⟨b, off, e, hlt, hc⟩ := h.rd hn
    exact ⟨b, off, e, Nat.lt_of_lt_of_le hlt hb.size, fun i x hx j u hu => (hb.cell (p := ⟨b, off + i * k + j, none⟩) hlt).trans (hc i x hx j u hu)⟩⟩
theorem Sl.ev (h : Sl k enc w A n cap l) (hb : Ev w w') : Sl k enc w' A n cap l := h.below hb
theorem Sl.but {K : List Nat} (h : Sl k enc w A n cap l) (hb : But K w w') (hA : ∀ ad, A = some ad → ad.block ∉ K) : Sl k enc w' A n cap l :=
  ⟨h.len, h.le, h.max, h.nil, fun hn => by
    obtain ⟨b, off, e, hlt, hc⟩ := h.rd hn
    refine ⟨b, off, e, Nat.lt_of_lt_of_le hlt hb.size, fun i x hx j u hu => ?_⟩
    rw [World.cell?_of_block (w := w) (hb.block b hlt (hA _ e))]
    exact hc i x hx j u hu⟩
theorem Sl.nil_ (w : World) : Sl k enc w none 0 0 ([] : List α) := ⟨rfl, Nat.le_refl _, by omega, fun _ => ⟨rfl, rfl⟩, fun h => absurd h (by omega)⟩
/-- 'b[:m]'. -/
theorem Sl.to (h : Sl k enc w A n cap l) (m : Nat) (hm : m ≤ n) : Sl k enc w A m cap (l.take m) :=
  ⟨by rw [List.length_take, h.len]; omega, Nat.le_trans hm h.le, h.max, fun e => by have := h.nil e; omega, fun h0 => by
    obtain ⟨b, off, e, hlt, hc⟩ := h.rd (by omega)
    refine ⟨b, off, e, hlt, fun i x hx j u hu => hc i x ?_ j u hu⟩
    rw [List.getElem?_take] at hx
    split at hx
    · exact hx
    · cases hx⟩
theorem Sl.at (h : Sl k enc w A n cap l) {i : Nat} (hi : i < n) : ∃ x, l[i]? = some x := ⟨_, List.getElem?_eq_getElem (by rw [h.len]; exact hi)⟩
end

/-- A Value; a column. -/
abbrev V := Int × Int × ByteArray
abbrev C := ByteArray × Int
abbrev V.v (x : V) : Value := vv x.1 x.2.1 x.2.2
def vcells (x : V) : List Value := [.int .i64 x.1, .int .i64 x.2.1, .string x.2.2]
def ccells (x : C) : List Value := [.string x.1, .int .i64 x.2]
/-- The slice holds the Values l; the columns l. -/
abbrev Vs := Sl 3 vcells
abbrev Cs := Sl 2 ccells

/-- Element i of a row: its three cells. -/
theorem Sl.vcell {w : World} {A : Option Addr} {n cap : Nat} {l : List V} (h : Vs w A n cap l) {i : Nat} (hi : i < n) :
    ∃ b off x, A = some ⟨b, off, none⟩ ∧ b < w.heap.size ∧ l[i]? = some x ∧ w.cell? ⟨b, off + i * 3, none⟩ = some (.int .i64 x.1) ∧ w.cell? ⟨b, off + i * 3 + 1, none⟩ = some (.int .i64 x.2.1) ∧ w.cell? ⟨b, off + i * 3 + 2, none⟩ = some (.string x.2.2) := by
  obtain ⟨x, hx⟩ := h.at hi
  obtain ⟨b, off, e, hlt, hc⟩ := h.rd (by omega)
  exact ⟨b, off, x, e, hlt, hx, hc i x hx 0 _ rfl, hc i x hx 1 _ rfl, hc i x hx 2 _ rfl⟩
theorem Sl.ccell {w : World} {A : Option Addr} {n cap : Nat} {l : List C} (h : Cs w A n cap l) {i : Nat} (hi : i < n) :
    ∃ b off x, A = some ⟨b, off, none⟩ ∧ b < w.heap.size ∧ l[i]? = some x ∧ w.cell? ⟨b, off + i * 2, none⟩ = some (.string x.1) ∧ w.cell? ⟨b, off + i * 2 + 1, none⟩ = some (.int .i64 x.2) := by
  obtain ⟨x, hx⟩ := h.at hi
  obtain ⟨b, off, e, hlt, hc⟩ := h.rd (by omega)
  exact ⟨b, off, x, e, hlt, hx, hc i x hx 0 _ rfl, hc i x hx 1 _ rfl⟩

/-- Values are held against one another: in a region, in a quiet one. -/
theorem sameV_dec (x y : V) : sameV x.1 x.2.1 x.2.2 y.1 y.2.1 y.2.2 = decide (x = y) := by
  rw [Bool.eq_iff_iff, sameV_iff, decide_eq_true_iff]
  constructor
  · rintro ⟨h1, h2, h3⟩; exact Prod.ext h1 (Prod.ext h2 h3)
  · rintro rfl; exact ⟨rfl, rfl, rfl⟩
end Go.Proofs.Ytjffppfgappikaa
