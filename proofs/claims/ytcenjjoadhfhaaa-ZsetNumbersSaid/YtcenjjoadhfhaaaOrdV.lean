/-
  The order of values, and what is put and got: plain facts.
-/
import Derived.Test.YtcenjjoadhfhaaaVal
import Derived.Test.YtcenjjoadhfhaaaArg
namespace Go.Proofs.Ytcenjjoadhfhaaa
open Go.RowKit
set_option linter.unusedVariables false

theorem bl_irrefl : ∀ x : List UInt8, Op.bytesLess x x = false
  | [] => rfl
  | a :: x => by simp [Op.bytesLess, bl_irrefl x]
theorem bl_tri : ∀ x y : List UInt8, x ≠ y → Op.bytesLess x y = !Op.bytesLess y x
  | [], [], h => absurd rfl h
  | [], _ :: _, _ => rfl
  | _ :: _, [], _ => rfl
  | a :: x, b :: y, h => by
    by_cases hab : a = b
    · subst hab
      have h2 : x ≠ y := fun e => h (by rw [e])
      simp [Op.bytesLess, bl_tri x y h2]
    · have hn : a.toNat ≠ b.toNat := fun e => hab (UInt8.toNat_inj.1 e)
      have hba : ¬ b = a := fun e => hab e.symm
      by_cases hlt : a < b
      · have h3 : ¬ b < a := by rw [UInt8.lt_iff_toNat_lt] at hlt ⊢; omega
        simp [Op.bytesLess, hlt, h3, hba]
      · have h3 : b < a := by rw [UInt8.lt_iff_toNat_lt] at hlt ⊢; omega
        simp [Op.bytesLess, hlt, h3, hab]
theorem bl_trans : ∀ x y z : List UInt8, Op.bytesLess x y = true → Op.bytesLess y z = true → Op.bytesLess x z = true
  | [], [], _, h, _ => by cases h
  | [], _ :: _, [], _, h => by cases h
  | [], _ :: _, _ :: _, _, _ => rfl
  | _ :: _, [], _, h, _ => by cases h
  | _ :: _, _ :: _, [], _, h => by cases h
  | a :: x, b :: y, c :: z, h1, h2 => by
    simp only [Op.bytesLess, Bool.or_eq_true, Bool.and_eq_true, decide_eq_true_eq, beq_iff_eq] at h1 h2 ⊢
    rcases h1 with h1 | ⟨rfl, h1⟩
    · rcases h2 with h2 | ⟨rfl, h2⟩
      · left; rw [UInt8.lt_iff_toNat_lt] at h1 h2 ⊢; omega
      · exact .inl h1
    · rcases h2 with h2 | ⟨rfl, h2⟩
      · exact .inl h2
      · exact .inr ⟨rfl, bl_trans x y z h1 h2⟩

theorem right_kind {k n : Int} {s : ByteArray} (h : rightV k n s = true) : (k = 1 ∧ s = ⟨#[]⟩) ∨ (k = 2 ∧ n = 0 ∧ s.size ≤ 40) := by
  unfold rightV at h
  split at h
  · rename_i h1
    obtain ⟨⟨l⟩⟩ := s
    have : l = [] := by simpa using h
    subst this
    exact .inl ⟨h1, rfl⟩
  · split at h
    · rename_i h1
      simp at h
      exact .inr ⟨h1, h.1, h.2⟩
    · cases h
theorem less_tri {k n : Int} {s : ByteArray} {k' n' : Int} {s' : ByteArray} (h : rightV k n s = true) (h' : rightV k' n' s' = true) :
    (lessV k n s k' n' s' != lessV k' n' s' k n s) = !sameV k n s k' n' s' := by
  have key : (sameV k n s k' n' s' = true → lessV k n s k' n' s' = lessV k' n' s' k n s) ∧ (sameV k n s k' n' s' = false → lessV k n s k' n' s' = !lessV k' n' s' k n s) := by
    constructor
    · intro e
      obtain ⟨rfl, rfl, rfl⟩ := sameV_iff.1 e
      rfl
    · intro e
      have hne : ¬ (k = k' ∧ n = n' ∧ s = s') := fun c => by rw [sameV_iff.2 c] at e; cases e
      unfold lessV
      rw [h, h']
      simp only [Bool.and_self, if_pos]
      rcases right_kind h with ⟨rfl, rfl⟩ | ⟨rfl, rfl, _⟩
      · rcases right_kind h' with ⟨rfl, rfl⟩ | ⟨rfl, rfl, _⟩
        · have hn : n ≠ n' := fun c => hne ⟨rfl, c, rfl⟩
          have hd : decide (n < n') = !decide (n' < n) := by
            by_cases a : n < n'
            · have b : ¬ n' < n := by omega
              simp [a, b]
            · have b : n' < n := by omega
              simp [a, b]
          simp only [if_true]
          exact hd
        · simp
      · rcases right_kind h' with ⟨rfl, rfl⟩ | ⟨rfl, rfl, _⟩
        · simp
        · have hs : s.toList ≠ s'.toList := fun c => hne ⟨rfl, rfl, toList_inj c⟩
          simp [bl_tri _ _ hs]
  cases hsm : sameV k n s k' n' s'
  · rw [key.2 hsm]; cases lessV k' n' s' k n s <;> rfl
  · rw [key.1 hsm]; cases lessV k' n' s' k n s <;> rfl
theorem less_trans {k n : Int} {s : ByteArray} {k' n' : Int} {s' : ByteArray} {k2 n2 : Int} {s2 : ByteArray} (h1 : lessV k n s k' n' s' = true) (h2 : lessV k' n' s' k2 n2 s2 = true) : lessV k n s k2 n2 s2 = true := by
  unfold lessV at h1 h2 ⊢
  split at h1
  · rename_i hr1
    split at h2
    · rename_i hr2
      simp only [Bool.and_eq_true] at hr1 hr2
      rw [hr1.1, hr2.2]
      simp only [Bool.and_self, if_pos]
      rcases right_kind hr1.1 with ⟨rfl, rfl⟩ | ⟨rfl, rfl, _⟩
      · rcases right_kind hr1.2 with ⟨rfl, rfl⟩ | ⟨rfl, rfl, _⟩
        · rcases right_kind hr2.2 with ⟨rfl, rfl⟩ | ⟨rfl, rfl, _⟩
          · simp at h1 h2 ⊢; omega
          · simp
        · rcases right_kind hr2.2 with ⟨rfl, rfl⟩ | ⟨rfl, rfl, _⟩
          · simp at h2
          · simp
      · rcases right_kind hr1.2 with ⟨rfl, rfl⟩ | ⟨rfl, rfl, _⟩
        · simp at h1
        · rcases right_kind hr2.2 with ⟨rfl, rfl⟩ | ⟨rfl, rfl, _⟩
          · simp at h2
          · simp at h1 h2 ⊢; exact bl_trans _ _ _ h1 h2
    · cases h2
  · cases h1

theorem take_app {x r : List UInt8} {k : Nat} (h : x.length = k) (why pos : Nat) (p : List UInt8) (hp : p.length = pos) (L : List UInt8) (hL : L = p ++ (x ++ r)) : rdTake L 0 pos k = (x, 0, pos + k) := by
  subst hL
  unfold rdTake rdLeft
  rw [if_pos (by simp; omega)]
  simp only [← hp, List.drop_left, ← h, List.take_left]
theorem le_val_small (k n : Nat) (h : n < 256 ^ k) : leVal (le k n) = n := by rw [leVal_le, Nat.mod_eq_of_lt h]
theorem low_small {n : Int} (h0 : -9223372036854775808 ≤ n) (h1 : n ≤ 9223372036854775807) : wrap64 ((low n : Nat) : Int) = n := by
  rw [low_cast]
  unfold wrap64
  omega
/-- What is put is got. -/
theorem val_back {k n : Int} {s : ByteArray} (h : rightV k n s = true) (h0 : -9223372036854775808 ≤ n) (h1 : n ≤ 9223372036854775807) :
    rdVal (putV k n s) 0 0 = ((k, n, s.data.toList), 0, (putV k n s).length) := by
  rcases right_kind h with ⟨rfl, rfl⟩ | ⟨rfl, rfl, hs⟩
  · have e0 : putV 1 n ⟨#[]⟩ = le 1 (low 1) ++ le 8 (low n) := rfl
    have e1 := take_app (x := le 1 (low 1)) (r := le 8 (low n)) (le_length 1 _) 0 0 [] rfl _ e0
    have e2 := take_app (x := le 8 (low n)) (r := []) (le_length 8 _) 0 1 (le 1 (low 1)) rfl (putV 1 n ⟨#[]⟩) (by rw [e0, List.append_nil])
    have e3 : rdRaw (putV 1 n ⟨#[]⟩) 0 0 = ((1, n, []), 0, 9) := by
      unfold rdRaw
      rw [e1]
      simp only [show leVal (le 1 (low 1)) = 1 from rfl, if_true, Nat.zero_add, e2]
      rw [le_val_small 8 _ (low_lt n), low_small h0 h1]
    unfold rdVal
    rw [e3]
    simp [e0, le_length]
  · have hl : s.data.toList.length = s.size := by rw [Array.length_toList]; rfl
    have e0 : putV 2 0 s = le 1 (low 2) ++ (le 2 s.size ++ s.data.toList) := by rw [← hl]; rfl
    have e1 := take_app (x := le 1 (low 2)) (r := le 2 s.size ++ s.data.toList) (le_length 1 _) 0 0 [] rfl _ e0
    have e2 := take_app (x := le 2 s.size) (r := s.data.toList) (le_length 2 _) 0 1 (le 1 (low 2)) rfl (putV 2 0 s) e0
    have e3 := take_app (x := s.data.toList) (r := []) hl 0 3 (le 1 (low 2) ++ le 2 s.size) (by simp [le_length]) (putV 2 0 s) (by rw [e0, List.append_nil, List.append_assoc])
    have hv : leVal (le 2 s.size) = s.size := le_val_small 2 _ (by omega)
    have e4 : rdText (putV 2 0 s) 0 1 40 = (s.data.toList, 0, 3 + s.size) := by
      unfold rdText
      rw [e2]
      simp only [hv, if_neg (show ¬ 40 < s.size by omega)]
      exact e3
    have e5 : rdRaw (putV 2 0 s) 0 0 = ((2, 0, s.data.toList), 0, 3 + s.size) := by
      unfold rdRaw
      rw [e1]
      simp only [show leVal (le 1 (low 2)) = 2 from rfl, if_neg (show ¬ 2 = 1 by decide), if_true, Nat.zero_add, e4]
    unfold rdVal
    rw [e5]
    simp [e0, le_length, hl]
    omega
end Go.Proofs.Ytcenjjoadhfhaaa
