/-
  What the walks of stage 5's laws share: a Writer and a Reader in new memory; what is put is got.
-/
import Derived.Test.YtkjodlngpdihhaaKnown5
import Derived.Test.YtkjodlngpdihhaaRef5G
import Derived.Test.YtkjodlngpdihhaaRef5L
import Derived.Test.YtkjodlngpdihhaaRef5C
namespace Go.Proofs.Ytkjodlngpdihhaa
open Go.RowKit
set_option linter.unusedVariables false

/-- A Writer that is written in new memory turns nothing that was there. -/
theorem Wrote.new5 {w w1 w2 : World} {v' : Value} (h : Ev w w1) {p : Nat} (hp : w.heap.size ≤ p) (k : Wrote p (.slice none 0 0) w1 v' w2) : Ev w w2 :=
  (((But.of_ev (K := []) h).trans k.but (fun x hx => .inr (by simp [foot, Value.ownBlock] at hx; omega))).ev (by simp))
theorem new_writer5 (w : World) : Calls Try.prog 21 #[] w fun e w' => e = .returned (.pointer (some ⟨w.heap.size, 0, none⟩)) ∧ Wr w.heap.size (.slice none 0 0) [] w' ∧ Ev w w' :=
  (new_writer w).mono fun e w' ⟨he, hw⟩ => ⟨he, by subst hw; exact Wr.new w, by subst hw; exact Ev.alloc _ _⟩
/-- The document's Reader, newly made over the bytes. -/
theorem Rqs.new5 {A : Option Addr} {n cap : Nat} {X : List UInt8} {w : World} (hB : Bs w A n cap X) (hA : ∀ ad, A = some ad → ad.block < w.heap.size) (hs : n ≤ 140737488355328) :
    Rqs w.heap.size A n cap X 0 0 (w.alloc (.cells #[.slice A n cap, .int .i64 0, .bool false, .int .i64 0, .int .i64 0] 53)) :=
  ⟨0, false, 0, 0, heap_alloc_new w _, ⟨fun _ => ⟨rfl, rfl⟩, fun h => absurd rfl h⟩, hB.below (Ev.alloc w _), fun ad e => ⟨by have := hA ad e; omega, by have := hA ad e; simp; omega⟩, Nat.zero_le _, hs⟩
theorem But.new1 {w w1 w2 : World} {p : Nat} (h : Ev w w1) (hp : w.heap.size ≤ p) (k : But [p] w1 w2) : Ev w w2 :=
  ((But.of_ev (K := []) h).trans k (fun x hx => .inr (by simp at hx; omega))).ev (by simp)
theorem Sl.lt {α : Type} {k : Nat} {enc : α → List Value} {w : World} {A : Option Addr} {n cap : Nat} {l : List α} (h : Sl k enc w A n cap l) (h0 : 0 < n) : ∀ ad, A = some ad → ad.block < w.heap.size := by
  intro ad e
  obtain ⟨b, off, e2, hb, _⟩ := h.rd h0
  rw [e] at e2
  obtain rfl := Option.some.inj e2
  exact hb

theorem right_size5 {x : V} (h : rightVV x = true) : x.2.2.size ≤ 40 := by
  rcases right_kind h with ⟨_, e⟩ | ⟨_, _, h2⟩
  · rw [e]; decide
  · exact h2
theorem sizeR_right : ∀ l : List V, okR l = true → sizeR l ≤ 49 * l.length
  | [], _ => Nat.le_refl _
  | x :: l, h => by
    have h1 := okR_cons h
    have h2 := right_size5 h1.1
    have h3 := sizeR_right l h1.2
    simp only [sizeR, List.length_cons]
    omega

/-- A Value that was put is got, wherever it stands. -/
theorem val_at {k n : Int} {s : ByteArray} (h : rightV k n s = true) (h0 : -9223372036854775808 ≤ n) (h1 : n ≤ 9223372036854775807) (p r : List UInt8) (pos : Nat) (hp : p.length = pos) (L : List UInt8) (hL : L = p ++ (putV k n s ++ r)) :
    rdVal L 0 pos = ((k, n, s.data.toList), 0, pos + (putV k n s).length) := by
  rcases right_kind h with ⟨rfl, rfl⟩ | ⟨rfl, rfl, hs⟩
  · have e0 : putV 1 n ⟨#[]⟩ = le 1 (low 1) ++ le 8 (low n) := rfl
    have e1 := take_app (x := le 1 (low 1)) (r := le 8 (low n) ++ r) (le_length 1 _) 0 pos p hp L (by rw [hL, e0, List.append_assoc])
    have e2 := take_app (x := le 8 (low n)) (r := r) (le_length 8 _) 0 (pos + 1) (p ++ le 1 (low 1)) (by rw [List.length_append, hp, le_length]) L (by rw [hL, e0]; simp [List.append_assoc])
    have e3 : rdRaw L 0 pos = ((1, n, []), 0, pos + 1 + 8) := by
      unfold rdRaw
      rw [e1]
      simp only [show leVal (le 1 (low 1)) = 1 from rfl, if_true, e2]
      rw [le_val_small 8 _ (low_lt n), low_small h0 h1]
    unfold rdVal
    rw [e3]
    simp [e0, le_length]
  · have hl : s.data.toList.length = s.size := by rw [Array.length_toList]; rfl
    have e0 : putV 2 0 s = le 1 (low 2) ++ (le 2 s.size ++ s.data.toList) := by rw [← hl]; rfl
    have e1 := take_app (x := le 1 (low 2)) (r := (le 2 s.size ++ s.data.toList) ++ r) (le_length 1 _) 0 pos p hp L (by rw [hL, e0, List.append_assoc])
    have e2 := take_app (x := le 2 s.size) (r := s.data.toList ++ r) (le_length 2 _) 0 (pos + 1) (p ++ le 1 (low 2)) (by rw [List.length_append, hp, le_length]) L (by rw [hL, e0]; simp [List.append_assoc])
    have e3 := take_app (x := s.data.toList) (r := r) hl 0 (pos + 1 + 2) (p ++ (le 1 (low 2) ++ le 2 s.size)) (by rw [List.length_append, List.length_append, hp, le_length, le_length]) L (by rw [hL, e0]; simp [List.append_assoc])
    have hv : leVal (le 2 s.size) = s.size := le_val_small 2 _ (by omega)
    have e4 : rdText L 0 (pos + 1) 40 = (s.data.toList, 0, pos + 1 + 2 + s.size) := by
      unfold rdText
      rw [e2]
      simp only [hv, if_neg (show ¬ 40 < s.size by omega)]
      exact e3
    have e5 : rdRaw L 0 pos = ((2, 0, s.data.toList), 0, pos + 1 + 2 + s.size) := by
      unfold rdRaw
      rw [e1]
      simp only [show leVal (le 1 (low 2)) = 2 from rfl, if_neg (show ¬ 2 = 1 by decide), if_true, e4]
    unfold rdVal
    rw [e5]
    simp [e0, le_length, hl]
    omega
theorem rdX_at {x : V} (h : rightVV x = true) (h0 : -9223372036854775808 ≤ x.2.1 ∧ x.2.1 ≤ 9223372036854775807) (p r : List UInt8) (pos : Nat) (hp : p.length = pos) (L : List UInt8) (hL : L = p ++ (putVV x ++ r)) :
    rdX L 0 pos = x ∧ (rdVal L 0 pos).2 = (0, pos + (putVV x).length) := by
  have e := val_at h h0.1 h0.2 p r pos hp L hL
  unfold rdX
  rw [e]
  refine ⟨?_, rfl⟩
  obtain ⟨k, n, s⟩ := x
  simp
theorem loop_back : ∀ (r : List V) (acc : List V) (p t : List UInt8) (pos : Nat) (L : List UInt8), okR r = true → okN r → p.length = pos → L = p ++ (r.flatMap putVV ++ t) →
    rdLoop L r.length acc 0 pos = (acc ++ r, 0, pos + (r.flatMap putVV).length)
  | [], acc, p, t, pos, L, _, _, _, _ => by simp [rdLoop]
  | x :: r, acc, p, t, pos, L, hr, hN, hp, hL => by
    have h1 := okR_cons hr
    have h2 := rdX_at h1.1 (hN x (by simp)) p (r.flatMap putVV ++ t) pos hp L (by rw [hL, List.flatMap_cons, List.append_assoc])
    have ih := loop_back r (acc ++ [x]) (p ++ putVV x) t (pos + (putVV x).length) L h1.2 (fun y hy => hN y (by simp [hy])) (by rw [List.length_append, hp]) (by rw [hL, List.flatMap_cons]; simp [List.append_assoc])
    rw [List.length_cons]
    unfold rdLoop
    rw [h2.1, h2.2, if_pos h1.1, ih]
    simp only [List.flatMap_cons, List.length_append, List.append_assoc, List.singleton_append]
    rw [Nat.add_assoc]
/-- A row that was put is got. -/
theorem row_back {r : List V} (h : rightR r = true) (hN : okN r) : rdRow (putR r) 0 0 = (r, 0, (putR r).length) := by
  have hl := rightR_len h
  have e1 := take_app (x := le 1 (low (r.length : Int))) (r := r.flatMap putVV) (le_length 1 _) 0 0 [] rfl (putR r) rfl
  have hv : leVal (le 1 (low (r.length : Int))) = r.length := by
    have hlow : low (r.length : Int) = r.length := by unfold low; omega
    rw [hlow]
    exact le_val_small 1 _ (by omega)
  have e2 : rdCount (putR r) 0 0 = (r.length, 0, 1) := by
    unfold rdCount
    rw [e1]
    simp only [hv]
    rw [if_neg (fun c => c.2 hl)]
  unfold rdRow
  rw [e2]
  have := loop_back r [] (le 1 (low (r.length : Int))) [] 1 (putR r) (rightR_ok h) hN (le_length 1 _) (by rw [List.append_nil]; rfl)
  simp only at this ⊢
  rw [this]
  unfold putR
  rw [List.length_append, le_length, List.nil_append]
theorem rdEnd_whole (L : List UInt8) : rdEnd L 0 L.length = (0, 0) := by simp [rdEnd]
end Go.Proofs.Ytkjodlngpdihhaa
