/-
  The walk of ValueShows.
-/
import Derived.Test.YtdakcljjmbhbgaaDoorKnown4
import Derived.Lib.ItoaLen
namespace Go.Proofs.YtdakcljjmbhbgaaDoor
open Go.RowKit
set_option linter.unusedVariables false

/-- The number that digits spell. -/
def dval (l : List UInt8) : Nat := l.foldl (fun a c => a * 10 + (c.toNat - 48)) 0
theorem dval_snoc (l : List UInt8) (c : UInt8) : dval (l ++ [c]) = dval l * 10 + (c.toNat - 48) := by simp [dval]
theorem fold_ge : ∀ (m : List UInt8) (a : Nat), a ≤ m.foldl (fun a c => a * 10 + (c.toNat - 48)) a
  | [], a => Nat.le_refl _
  | c :: m, a => by
    rw [List.foldl_cons]
    have := fold_ge m (a * 10 + (c.toNat - 48))
    omega
theorem dval_take (l : List UInt8) (j : Nat) : dval (l.take j) ≤ dval l := by
  conv => rhs; rw [← List.take_append_drop j l]
  unfold dval
  rw [List.foldl_append]
  exact fold_ge _ _
theorem dig_nat (x : Nat) (h : x < 10) : (UInt8.ofNat (48 + x)).toNat = 48 + x := by simp; omega
theorem dec_range (u : Nat) : ∀ c ∈ Lib.decDigits u, 48 ≤ c.toNat ∧ c.toNat ≤ 57 := by
  induction u using Nat.strongRecOn with
  | _ u ih =>
    rw [Lib.decDigits]
    split
    · rename_i h
      intro c hc
      rw [List.mem_singleton] at hc
      subst hc
      rw [dig_nat u h]; omega
    · intro c hc
      rcases List.mem_append.1 hc with hc | hc
      · exact ih (u / 10) (by omega) c hc
      · rw [List.mem_singleton] at hc
        subst hc
        rw [dig_nat _ (by omega)]; omega
theorem dec_val (u : Nat) : dval (Lib.decDigits u) = u := by
  induction u using Nat.strongRecOn with
  | _ u ih =>
    rw [Lib.decDigits]
    split
    · rename_i h
      simp only [dval, List.foldl_cons, List.foldl_nil]
      rw [dig_nat u h]; omega
    · rw [dval_snoc, ih (u / 10) (by omega), dig_nat _ (by omega)]; omega
theorem dec_pos (u : Nat) : 0 < (Lib.decDigits u).length := by
  rw [Lib.decDigits]
  split <;> simp
theorem dec_lead (u : Nat) (h : 1 ≤ u) : ((Lib.decDigits u).getD 0 0).toNat ≠ 48 := by
  induction u using Nat.strongRecOn with
  | _ u ih =>
    rw [Lib.decDigits]
    split
    · rename_i h1
      simp only [List.getD_cons_zero]
      rw [dig_nat u h1]; omega
    · have h2 := ih (u / 10) (by omega) (by omega)
      have h3 := dec_pos (u / 10)
      have e : (Lib.decDigits (u / 10) ++ [UInt8.ofNat (48 + u % 10)]).getD 0 0 = (Lib.decDigits (u / 10)).getD 0 0 := by simp only [List.getD, List.getElem?_append_left h3]
      rw [e]
      exact h2
theorem dec_small (u : Nat) (h : u < 10) : (Lib.decDigits u).length = 1 := by rw [Lib.decDigits, dif_pos h]; rfl

theorem hexB_range (x : Nat) (h : x < 16) : 32 ≤ (hexB x).toNat ∧ (hexB x).toNat ≤ 126 := by
  unfold hexB
  split <;> simp <;> omega
theorem showB_range (c : UInt8) : ∀ d ∈ showB c, 32 ≤ d.toNat ∧ d.toNat ≤ 126 := by
  intro d hd
  have hc := c.toNat_lt
  unfold showB at hd
  split at hd
  · rename_i h
    rw [List.mem_singleton] at hd
    subst hd
    simp only [plainB, decide_eq_true_eq] at h
    exact ⟨h.1, h.2.1⟩
  · simp only [List.mem_cons, List.not_mem_nil, or_false] at hd
    rcases hd with rfl | rfl | rfl
    · decide
    · exact hexB_range _ (by omega)
    · exact hexB_range _ (by omega)
theorem quoteB_range (l : List UInt8) : ∀ d ∈ quoteB l, 32 ≤ d.toNat ∧ d.toNat ≤ 126 := by
  intro d hd
  unfold quoteB at hd
  rcases List.mem_cons.1 hd with rfl | hd
  · decide
  · rcases List.mem_append.1 hd with hd | hd
    · obtain ⟨c, _, hc⟩ := List.mem_flatMap.1 hd
      exact showB_range c d hc
    · rw [List.mem_singleton] at hd
      subst hd
      decide
/-- The bytes of a string at a place. -/
theorem at_list (l : List UInt8) (k : Nat) (hh : k < (⟨l.toArray⟩ : ByteArray).size) : (⟨l.toArray⟩ : ByteArray)[k]'hh = l.getD k 0 := by
  have h : k < l.length := by simpa [ByteArray.size] using hh
  show l.toArray[k] = _
  simp [List.getD, h]
theorem getD_mem {l : List UInt8} {k : Nat} (h : k < l.length) : l.getD k 0 ∈ l := by
  simp [List.getD, h]
theorem quoteB_last (l : List UInt8) : (quoteB l).getD ((quoteB l).length - 1) 0 = 34 := by
  unfold quoteB
  rw [← List.cons_append]
  simp [List.getD]
theorem quoteB_length (l : List UInt8) : (quoteB l).length = 2 + (l.flatMap showB).length := by
  unfold quoteB
  simp
  omega

set_option maxRecDepth 100000 in
set_option maxHeartbeats 4000000 in
/-- From the text that is short enough on. -/
theorem vs_walk_short (n : Int) (s : ByteArray) (w : World) (hT : Tab w) (h0 : -9223372036854775808 ≤ n) (h1 : n ≤ 9223372036854775807) (hs : s.size ≤ 40) :
    Calls Tryd.prog 6 #[.int .i64 n, .string s] w fun e w' => e = .returned (.bool true) ∧ Ev w w' := by
  obtain ⟨l, hl⟩ : ∃ l, s.data.toList = l := ⟨_, rfl⟩
  have hse : s = ⟨l.toArray⟩ := by rw [← hl]
  have hsz : s.size = l.length := by rw [hse]; rfl
  have hsa : ∀ k (hh : k < s.size), s[k]'hh = l.getD k 0 := by subst hse; exact fun k hh => at_list _ k hh
  have HS := Lib.hid (fun w => value_str s w)
  have HW := fun w (h : Tab w) => value_show 2 0 s w h (by omega) (by omega)
  have hr : rightV 2 0 s = true := by simp [rightV]; exact hs
  rw [show showV 2 0 s = quoteB l by simp [showV, hr, hl]] at HW
  obtain ⟨t, ht⟩ : ∃ t : ByteArray, t = ⟨(quoteB l).toArray⟩ := ⟨_, rfl⟩
  have hts : t.size = 2 + (l.flatMap showB).length := by rw [ht, ← quoteB_length]; rfl
  have hta : ∀ k (hh : k < t.size), t[k]'hh = (quoteB l).getD k 0 := by subst ht; exact fun k hh => at_list _ k hh
  rw [← ht] at HW
  have HW := Lib.hid HW
  have HN := Lib.hid (fun w => value_num n w)
  have HD := fun w (h : Tab w) => value_show 1 n ⟨#[]⟩ w h h0 h1
  rw [show showV 1 n ⟨#[]⟩ = Lib.itoa n by simp [showV, rightV]] at HD
  obtain ⟨d, hd⟩ : ∃ d : ByteArray, d = ⟨(Lib.itoa n).toArray⟩ := ⟨_, rfl⟩
  have hds : d.size = (Lib.itoa n).length := by rw [hd]; rfl
  have hda : ∀ k (hh : k < d.size), d[k]'hh = (Lib.itoa n).getD k 0 := by subst hd; exact fun k hh => at_list _ k hh
  rw [← hd] at HD
  have HD := Lib.hid HD
  have hfl := flat_length l
  have hl40 : l.length ≤ 40 := by omega
  have hqr := quoteB_range l
  have hql := quoteB_last l
  have hqn := quoteB_length l
  clear hr ht hd hl hse hs
  have HTA := Lib.hid hta; have HSA := Lib.hid hsa; have HDA := Lib.hid hda; have HDS := Lib.hid hds; have HTS := Lib.hid hts; have HSZ := Lib.hid hsz; have HQL := Lib.hid hql; have HQN := Lib.hid hqn; have HQR := Lib.hid hqr
  clear hta hsa hda hds hts hsz hql hqn hqr
  obtain ⟨z, hz⟩ : ∃ z, s.size = z := ⟨_, rfl⟩
  have hzl : z = l.length := by rw [← hz]; exact HSZ.out
  have HZL := Lib.hid hzl
  have hz40 : z ≤ 40 := by omega
  clear hzl
  go_enter Tryd.func6, Tryd.ntmps6
  go_wp2_with (first | ((with_reducible refine (HS.out w).mono ?_); rintro y w1 ⟨rfl, hE1⟩) | ((with_reducible refine (HW.out w1 (hT.ev hE1)).mono ?_); rintro y w2 ⟨rfl, hE2⟩; have E2 := hE1.trans hE2))
  go_loop [6, 7] (fun q i => ∃ k : Nat, k ≤ z ∧ i = .int .i64 (k : Int) ∧ q = .int .i64 ((2 + ((l.take k).flatMap showB).length : Nat) : Int)) (fun _ i => z - (intOf i).toNat)
  case atStart => exact ⟨0, Nat.zero_le _, rfl, by simp⟩
  case round =>
    obtain ⟨k, hk, rfl, rfl⟩ := hrel
    by_cases hlt : k < z
    · obtain ⟨c, hc⟩ : ∃ c, l.getD k 0 = c := ⟨_, rfl⟩
      have hsc : ∀ hh, s[k]'hh = c := fun hh => by rw [← hc]; exact HSA.out k hh
      have hfs := flat_succ (l := l) (k := k) (by rw [← HZL.out]; exact hlt)
      rw [hc] at hfs
      have HFS := Lib.hid hfs
      have hfk := flat_length (l.take k)
      have hlk : (l.take k).length ≤ k := by simp; omega
      have hcc := c.toNat_lt
      clear hc hfs
      obtain ⟨f, hf⟩ : ∃ f, ((l.take k).flatMap showB).length = f := ⟨_, rfl⟩
      rw [hf] at hfk ⊢
      have HF := Lib.hid hf
      clear hf
      by_cases p1 : (c.toNat : Int) < 32
      · have HV : Hid (((l.take (k + 1)).flatMap showB).length = f + 3) := by rw [HFS.out, List.length_append, HF.out]; unfold showB; rw [if_neg (by unfold plainB; simp only [decide_eq_true_eq]; omega)]; rfl
        go_wp2
        go_round
        case rel => exact ⟨k + 1, by omega, by go_num, by rw [HV.out]; go_num⟩
        case measure => simp [intOf]; omega
      · by_cases p2 : (126 : Int) < c.toNat
        · have HV : Hid (((l.take (k + 1)).flatMap showB).length = f + 3) := by rw [HFS.out, List.length_append, HF.out]; unfold showB; rw [if_neg (by unfold plainB; simp only [decide_eq_true_eq]; omega)]; rfl
          go_wp2
          go_round
          case rel => exact ⟨k + 1, by omega, by go_num, by rw [HV.out]; go_num⟩
          case measure => simp [intOf]; omega
        · by_cases p3 : (c.toNat : Int) = 34
          · have HV : Hid (((l.take (k + 1)).flatMap showB).length = f + 3) := by rw [HFS.out, List.length_append, HF.out]; unfold showB; rw [if_neg (by unfold plainB; simp only [decide_eq_true_eq]; omega)]; rfl
            go_wp2
            go_round
            case rel => exact ⟨k + 1, by omega, by go_num, by rw [HV.out]; go_num⟩
            case measure => simp [intOf]; omega
          · by_cases p4 : (c.toNat : Int) = 92
            · have HV : Hid (((l.take (k + 1)).flatMap showB).length = f + 3) := by rw [HFS.out, List.length_append, HF.out]; unfold showB; rw [if_neg (by unfold plainB; simp only [decide_eq_true_eq]; omega)]; rfl
              go_wp2
              go_round
              case rel => exact ⟨k + 1, by omega, by go_num, by rw [HV.out]; go_num⟩
              case measure => simp [intOf]; omega
            · have e3 : ((c.toNat : Int) == 34) = false := beq_eq_false_iff_ne.2 p3
              have e4 : ((c.toNat : Int) == 92) = false := beq_eq_false_iff_ne.2 p4
              have HV : Hid (((l.take (k + 1)).flatMap showB).length = f + 1) := by rw [HFS.out, List.length_append, HF.out]; unfold showB; rw [if_pos (by unfold plainB; exact decide_eq_true (by omega))]; rfl
              go_wp2
              go_round
              case rel => exact ⟨k + 1, by omega, by go_num, by rw [HV.out]; go_num⟩
              case measure => simp [intOf]; omega
    · obtain rfl : k = z := by omega
      have ha : l.take k = l := List.take_of_length_le (by rw [← HZL.out]; exact Nat.le_refl _)
      rw [ha]
      have ht0 : ∀ hh, t[0]'hh = 34 := fun hh => HTA.out 0 hh
      obtain ⟨f, hf⟩ : ∃ f, (l.flatMap showB).length = f := ⟨_, rfl⟩
      have hts := HTS.out
      rw [hf] at hts hfl ⊢
      have hte : ∀ hh, t[1 + f]'hh = 34 := fun hh => by
        rw [HTA.out (1 + f) hh]
        have := HQL.out
        rw [HQN.out, hf, show 2 + f - 1 = 1 + f by omega] at this
        exact this
      clear ha hf
      go_wp2
      go_loop [8] (fun i => ∃ j : Nat, j ≤ 2 + f ∧ i = .int .i64 (j : Int)) (fun i => 2 + f - (intOf i).toNat)
      case atStart => exact ⟨0, Nat.zero_le _, rfl⟩
      case round =>
        obtain ⟨j, hj, rfl⟩ := hrel
        by_cases hjl : j < 2 + f
        · have hqn := HQN.out
          obtain ⟨c, hc⟩ : ∃ c, (quoteB l).getD j 0 = c := ⟨_, rfl⟩
          have htj : ∀ hh, t[j]'hh = c := fun hh => by rw [← hc]; exact HTA.out j hh
          have hcr := HQR.out c (hc ▸ getD_mem (by rw [hqn]; have := HTS.out; omega))
          have p1 : ¬ ((c.toNat : Int) < 32) := by omega
          have p2 : ¬ ((126 : Int) < c.toNat) := by omega
          clear hqn hc hcr
          go_wp2
          go_round
          case rel => exact ⟨j + 1, by omega, by go_num⟩
          case measure => simp [intOf]; omega
        · obtain rfl : j = 2 + f := by omega
          go_wp2_with (first | ((with_reducible refine (HN.out w2).mono ?_); rintro y w3 ⟨rfl, hE3⟩; have E3 := E2.trans hE3) | ((with_reducible refine (HD.out w3 (hT.ev E3)).mono ?_); rintro y w4 ⟨rfl, hE4⟩; have E4 := E3.trans hE4))
          have hlen := Lib.itoa_length_le n h0 h1
          have HK := Lib.hid (fun w (h : Tab w) => known_any w h)
          have hT4 := hT.ev E4
          clear HS HW HTA HSA HQL HQN HQR HTS HSZ HZL ht0 hte
          by_cases hneg : n < 0
          · obtain ⟨u, hu⟩ : ∃ u : Nat, n.natAbs = u := ⟨_, rfl⟩
            have hnu : n = -(u : Int) := by omega
            have hit : Lib.itoa n = 45 :: Lib.decDigits u := by unfold Lib.itoa; rw [if_pos hneg, hu]
            have hu1 : 1 ≤ u := by omega
            have hd0 : ∀ hh, d[0]'hh = 45 := fun hh => by rw [HDA.out 0 hh, hit]; rfl
            have hdj : ∀ j hh, d[j + 1]'hh = (Lib.decDigits u).getD j 0 := fun j hh => by rw [HDA.out (j + 1) hh, hit]; rfl
            have hdz : d.size = (Lib.decDigits u).length + 1 := by rw [HDS.out, hit]; rfl
            have hrg := dec_range u
            have hld := dec_lead u hu1
            have hvl := dec_val u
            rw [hit] at hlen
            simp only [List.length_cons] at hlen
            generalize Lib.decDigits u = ds at *
            obtain ⟨D, hD⟩ : ∃ D, ds.length = D := ⟨_, rfl⟩
            rw [hD] at hdz hlen
            have HJ := Lib.hid hdj; have HRG := Lib.hid hrg; have HLD := Lib.hid hld; have HVL := Lib.hid hvl; have HDD := Lib.hid hD; have HNU := Lib.hid hnu
            clear hdj hrg hld hvl hD hit HDA HDS hu hnu
            go_loop [10, 11] (fun b i => ∃ m : Nat, m ≤ D + 1 ∧ i = .int .i64 (m : Int) ∧ b = .int .i64 (-(dval (ds.take (m - 1)) : Int))) (fun _ i => D + 1 - (intOf i).toNat)
            case atStart => exact ⟨0, Nat.zero_le _, rfl, by simp [dval]⟩
            case round =>
              obtain ⟨m, hm, rfl, rfl⟩ := hrel
              by_cases hml : m < D + 1
              · by_cases hm0 : m = 0
                · subst hm0
                  simp only [Nat.zero_sub, List.take_zero]
                  have hdv : dval [] = 0 := rfl
                  rw [hdv]
                  go_wp2
                  go_round
                  case rel => exact ⟨1, by omega, by go_num, by simp [dval]⟩
                  case measure => simp [intOf]
                · obtain ⟨j, rfl⟩ : ∃ j, m = j + 1 := ⟨m - 1, by omega⟩
                  obtain ⟨c, hc⟩ : ∃ c, ds.getD j 0 = c := ⟨_, rfl⟩
                  have hcj : ∀ hh, d[j + 1]'hh = c := fun hh => by rw [← hc]; exact HJ.out j hh
                  have hjD : j < ds.length := by rw [HDD.out]; omega
                  obtain ⟨r1, r2⟩ := HRG.out c (hc ▸ getD_mem hjD)
                  have hz0 : j = 0 → c.toNat ≠ 48 := fun h => by subst h; rw [← hc]; exact HLD.out
                  have hstep : dval (ds.take (j + 1)) = dval (ds.take j) * 10 + (c.toNat - 48) := by
                    rw [List.take_add_one, List.getElem?_eq_getElem hjD]
                    have : ds[j] = c := by rw [← hc]; simp [List.getD, hjD]
                    rw [this]
                    exact dval_snoc _ _
                  have hle := dval_take ds (j + 1)
                  rw [HVL.out, hstep] at hle
                  have hnu := HNU.out
                  have hb : dval (ds.take j) * 10 + (c.toNat - 48) ≤ 9223372036854775808 := by omega
                  have HST := Lib.hid hstep
                  rw [show j + 1 - 1 = j by omega]
                  clear hc hstep hle hnu
                  generalize dval (ds.take j) = a at *
                  have e45 : ((c.toNat : Int) == 45) = false := beq_eq_false_iff_ne.2 (by omega)
                  have q1 : ¬ ((c.toNat : Int) < 48) := by omega
                  have q2 : ¬ ((57 : Int) < c.toNat) := by omega
                  have e0 : ¬ ((j : Int) + 1 = 0) := by omega
                  by_cases h48 : (c.toNat : Int) = 48
                  · have e48 : ((c.toNat : Int) == 48) = true := beq_iff_eq.2 h48
                    have ej : ¬ ((j : Int) + 1 = 1) := by have := hz0; omega
                    go_wp2
                    go_round
                    case rel => exact ⟨j + 1 + 1, by omega, by go_num, by rw [show j + 1 + 1 - 1 = j + 1 by omega, HST.out]; go_num⟩
                    case measure => simp [intOf]; omega
                  · have e48 : ((c.toNat : Int) == 48) = false := beq_eq_false_iff_ne.2 h48
                    go_wp2
                    go_round
                    case rel => exact ⟨j + 1 + 1, by omega, by go_num, by rw [show j + 1 + 1 - 1 = j + 1 by omega, HST.out]; go_num⟩
                    case measure => simp [intOf]; omega
              · obtain rfl : m = D + 1 := by omega
                have hbk : -((dval (ds.take (D + 1 - 1)) : Nat) : Int) = n := by rw [show D + 1 - 1 = D by omega, List.take_of_length_le (by rw [HDD.out]; exact Nat.le_refl _), HVL.out]; exact HNU.out.symm
                rw [hbk]
                clear hbk
                go_wp2_with (first | ((with_reducible refine (HK.out w4 hT4).mono ?_); rintro y w5 ⟨rfl, hE5⟩))
                go_ret
                exact ⟨rfl, E4.trans hE5⟩
          · obtain ⟨u, hu⟩ : ∃ u : Nat, n.toNat = u := ⟨_, rfl⟩
            have hnu : n = (u : Int) := by omega
            have hit : Lib.itoa n = Lib.decDigits u := by unfold Lib.itoa; rw [if_neg hneg, hu]
            have hdj : ∀ j hh, d[j]'hh = (Lib.decDigits u).getD j 0 := fun j hh => by rw [HDA.out j hh, hit]
            have hdz : d.size = (Lib.decDigits u).length := by rw [HDS.out, hit]
            have hrg := dec_range u
            have hld := dec_lead u
            have hsm := dec_small u
            have hvl := dec_val u
            have hps := dec_pos u
            rw [hit] at hlen
            generalize Lib.decDigits u = ds at *
            obtain ⟨D, hD⟩ : ∃ D, ds.length = D := ⟨_, rfl⟩
            rw [hD] at hdz hlen hsm hps
            obtain ⟨c0, hc0⟩ : ∃ c, ds.getD 0 0 = c := ⟨_, rfl⟩
            have hd0 : ∀ hh, d[0]'hh = c0 := fun hh => by rw [← hc0]; exact hdj 0 hh
            obtain ⟨r01, r02⟩ := hrg c0 (hc0 ▸ getD_mem (by rw [hD]; exact hps))
            have e045 : ((c0.toNat : Int) == 45) = false := beq_eq_false_iff_ne.2 (by omega)
            have hz0 : c0.toNat = 48 → D = 1 := fun h => hsm (by
              rcases Nat.lt_or_ge u 1 with h1 | h1
              · omega
              · exact absurd (hc0 ▸ h) (hld h1))
            have HJ := Lib.hid hdj; have HRG := Lib.hid hrg; have HVL := Lib.hid hvl; have HDD := Lib.hid hD; have HNU := Lib.hid hnu; have HC0 := Lib.hid hc0; have HZ := Lib.hid hz0
            clear hdj hrg hld hvl hD hit HDA HDS hu hnu hsm hc0 hz0
            have hn0 : ¬ (n < 0) := hneg
            go_loop [10, 11] (fun b i => ∃ m : Nat, m ≤ D ∧ i = .int .i64 (m : Int) ∧ b = .int .i64 (dval (ds.take m) : Int)) (fun _ i => D - (intOf i).toNat)
            case atStart => exact ⟨0, Nat.zero_le _, rfl, by simp [dval]⟩
            case round =>
              obtain ⟨m, hm, rfl, rfl⟩ := hrel
              by_cases hml : m < D
              · obtain ⟨c, hc⟩ : ∃ c, ds.getD m 0 = c := ⟨_, rfl⟩
                have hcj : ∀ hh, d[m]'hh = c := fun hh => by rw [← hc]; exact HJ.out m hh
                have hjD : m < ds.length := by rw [HDD.out]; omega
                obtain ⟨r1, r2⟩ := HRG.out c (hc ▸ getD_mem hjD)
                have hstep : dval (ds.take (m + 1)) = dval (ds.take m) * 10 + (c.toNat - 48) := by
                  rw [List.take_add_one, List.getElem?_eq_getElem hjD]
                  have : ds[m] = c := by rw [← hc]; simp [List.getD, hjD]
                  rw [this]
                  exact dval_snoc _ _
                have hle := dval_take ds (m + 1)
                rw [HVL.out, hstep] at hle
                have hnu := HNU.out
                have hb : dval (ds.take m) * 10 + (c.toNat - 48) ≤ 9223372036854775807 := by omega
                have HST := Lib.hid hstep
                have hcc : m = 0 → c = c0 := fun h => by subst h; rw [← hc]; exact HC0.out
                clear hc hstep hle hnu
                generalize dval (ds.take m) = a at *
                have e45 : ((c.toNat : Int) == 45) = false := beq_eq_false_iff_ne.2 (by omega)
                have q1 : ¬ ((c.toNat : Int) < 48) := by omega
                have q2 : ¬ ((57 : Int) < c.toNat) := by omega
                by_cases h48 : (c.toNat : Int) = 48
                · have e48 : ((c.toNat : Int) == 48) = true := beq_iff_eq.2 h48
                  by_cases hm0 : m = 0
                  · subst hm0
                    obtain rfl := hcc rfl
                    have hD1 := HZ.out (by omega)
                    have g1 : ¬ ((1 : Int) < D) := by omega
                    clear hcc
                    go_wp2
                    go_round
                    case rel => exact ⟨1, by omega, by go_num, by rw [HST.out]; go_num⟩
                    case measure => simp [intOf]; omega
                  · clear hcc
                    have e0 : ¬ ((m : Int) = 0) := by omega
                    by_cases hm1 : m = 1
                    · subst hm1
                      have g1 : (1 : Int) < D := by omega
                      go_wp2
                      go_round
                      case rel => exact ⟨2, by omega, by go_num, by rw [HST.out]; go_num⟩
                      case measure => simp [intOf]; omega
                    · have e1 : ¬ ((m : Int) = 1) := by omega
                      have g1 : (1 : Int) < D := by omega
                      go_wp2
                      go_round
                      case rel => exact ⟨m + 1, by omega, by go_num, by rw [HST.out]; go_num⟩
                      case measure => simp [intOf]; omega
                · have e48 : ((c.toNat : Int) == 48) = false := beq_eq_false_iff_ne.2 h48
                  clear hcc
                  go_wp2
                  go_round
                  case rel => exact ⟨m + 1, by omega, by go_num, by rw [HST.out]; go_num⟩
                  case measure => simp [intOf]; omega
              · obtain rfl : m = D := by omega
                have hbk : ((dval (ds.take m) : Nat) : Int) = n := by rw [List.take_of_length_le (by rw [HDD.out]; exact Nat.le_refl _), HVL.out]; exact HNU.out.symm
                rw [hbk]
                clear hbk
                go_wp2_with (first | ((with_reducible refine (HK.out w4 hT4).mono ?_); rintro y w5 ⟨rfl, hE5⟩))
                go_ret
                exact ⟨rfl, E4.trans hE5⟩

set_option maxRecDepth 100000 in
set_option maxHeartbeats 4000000 in
/-- A text that is too long is cut. -/
theorem vs_walk_long (n : Int) (S0 s : ByteArray) (w : World) (hT : Tab w) (h0 : -9223372036854775808 ≤ n) (h1 : n ≤ 9223372036854775807) (hx : S0.extract 0 40 = s) (hg : (40 : Int) < S0.size) (hs : s.size ≤ 40) :
    Calls Tryd.prog 6 #[.int .i64 n, .string S0] w fun e w' => e = .returned (.bool true) ∧ Ev w w' := by
  obtain ⟨l, hl⟩ : ∃ l, s.data.toList = l := ⟨_, rfl⟩
  have hse : s = ⟨l.toArray⟩ := by rw [← hl]
  have hsz : s.size = l.length := by rw [hse]; rfl
  have hsa : ∀ k (hh : k < s.size), s[k]'hh = l.getD k 0 := by subst hse; exact fun k hh => at_list _ k hh
  have HS := Lib.hid (fun w => value_str s w)
  have HW := fun w (h : Tab w) => value_show 2 0 s w h (by omega) (by omega)
  have hr : rightV 2 0 s = true := by simp [rightV]; exact hs
  rw [show showV 2 0 s = quoteB l by simp [showV, hr, hl]] at HW
  obtain ⟨t, ht⟩ : ∃ t : ByteArray, t = ⟨(quoteB l).toArray⟩ := ⟨_, rfl⟩
  have hts : t.size = 2 + (l.flatMap showB).length := by rw [ht, ← quoteB_length]; rfl
  have hta : ∀ k (hh : k < t.size), t[k]'hh = (quoteB l).getD k 0 := by subst ht; exact fun k hh => at_list _ k hh
  rw [← ht] at HW
  have HW := Lib.hid HW
  have HN := Lib.hid (fun w => value_num n w)
  have HD := fun w (h : Tab w) => value_show 1 n ⟨#[]⟩ w h h0 h1
  rw [show showV 1 n ⟨#[]⟩ = Lib.itoa n by simp [showV, rightV]] at HD
  obtain ⟨d, hd⟩ : ∃ d : ByteArray, d = ⟨(Lib.itoa n).toArray⟩ := ⟨_, rfl⟩
  have hds : d.size = (Lib.itoa n).length := by rw [hd]; rfl
  have hda : ∀ k (hh : k < d.size), d[k]'hh = (Lib.itoa n).getD k 0 := by subst hd; exact fun k hh => at_list _ k hh
  rw [← hd] at HD
  have HD := Lib.hid HD
  have hfl := flat_length l
  have hl40 : l.length ≤ 40 := by omega
  have hqr := quoteB_range l
  have hql := quoteB_last l
  have hqn := quoteB_length l
  clear hr ht hd hl hse hs
  have HTA := Lib.hid hta; have HSA := Lib.hid hsa; have HDA := Lib.hid hda; have HDS := Lib.hid hds; have HTS := Lib.hid hts; have HSZ := Lib.hid hsz; have HQL := Lib.hid hql; have HQN := Lib.hid hqn; have HQR := Lib.hid hqr
  clear hta hsa hda hds hts hsz hql hqn hqr
  obtain ⟨z, hz⟩ : ∃ z, s.size = z := ⟨_, rfl⟩
  have hzl : z = l.length := by rw [← hz]; exact HSZ.out
  have HZL := Lib.hid hzl
  have hz40 : z ≤ 40 := by omega
  clear hzl
  go_enter Tryd.func6, Tryd.ntmps6
  go_wp2_with (first | ((with_reducible refine (HS.out w).mono ?_); rintro y w1 ⟨rfl, hE1⟩) | ((with_reducible refine (HW.out w1 (hT.ev hE1)).mono ?_); rintro y w2 ⟨rfl, hE2⟩; have E2 := hE1.trans hE2))
  go_loop [6, 7] (fun q i => ∃ k : Nat, k ≤ z ∧ i = .int .i64 (k : Int) ∧ q = .int .i64 ((2 + ((l.take k).flatMap showB).length : Nat) : Int)) (fun _ i => z - (intOf i).toNat)
  case atStart => exact ⟨0, Nat.zero_le _, rfl, by simp⟩
  case round =>
    obtain ⟨k, hk, rfl, rfl⟩ := hrel
    by_cases hlt : k < z
    · obtain ⟨c, hc⟩ : ∃ c, l.getD k 0 = c := ⟨_, rfl⟩
      have hsc : ∀ hh, s[k]'hh = c := fun hh => by rw [← hc]; exact HSA.out k hh
      have hfs := flat_succ (l := l) (k := k) (by rw [← HZL.out]; exact hlt)
      rw [hc] at hfs
      have HFS := Lib.hid hfs
      have hfk := flat_length (l.take k)
      have hlk : (l.take k).length ≤ k := by simp; omega
      have hcc := c.toNat_lt
      clear hc hfs
      obtain ⟨f, hf⟩ : ∃ f, ((l.take k).flatMap showB).length = f := ⟨_, rfl⟩
      rw [hf] at hfk ⊢
      have HF := Lib.hid hf
      clear hf
      by_cases p1 : (c.toNat : Int) < 32
      · have HV : Hid (((l.take (k + 1)).flatMap showB).length = f + 3) := by rw [HFS.out, List.length_append, HF.out]; unfold showB; rw [if_neg (by unfold plainB; simp only [decide_eq_true_eq]; omega)]; rfl
        go_wp2
        go_round
        case rel => exact ⟨k + 1, by omega, by go_num, by rw [HV.out]; go_num⟩
        case measure => simp [intOf]; omega
      · by_cases p2 : (126 : Int) < c.toNat
        · have HV : Hid (((l.take (k + 1)).flatMap showB).length = f + 3) := by rw [HFS.out, List.length_append, HF.out]; unfold showB; rw [if_neg (by unfold plainB; simp only [decide_eq_true_eq]; omega)]; rfl
          go_wp2
          go_round
          case rel => exact ⟨k + 1, by omega, by go_num, by rw [HV.out]; go_num⟩
          case measure => simp [intOf]; omega
        · by_cases p3 : (c.toNat : Int) = 34
          · have HV : Hid (((l.take (k + 1)).flatMap showB).length = f + 3) := by rw [HFS.out, List.length_append, HF.out]; unfold showB; rw [if_neg (by unfold plainB; simp only [decide_eq_true_eq]; omega)]; rfl
            go_wp2
            go_round
            case rel => exact ⟨k + 1, by omega, by go_num, by rw [HV.out]; go_num⟩
            case measure => simp [intOf]; omega
          · by_cases p4 : (c.toNat : Int) = 92
            · have HV : Hid (((l.take (k + 1)).flatMap showB).length = f + 3) := by rw [HFS.out, List.length_append, HF.out]; unfold showB; rw [if_neg (by unfold plainB; simp only [decide_eq_true_eq]; omega)]; rfl
              go_wp2
              go_round
              case rel => exact ⟨k + 1, by omega, by go_num, by rw [HV.out]; go_num⟩
              case measure => simp [intOf]; omega
            · have e3 : ((c.toNat : Int) == 34) = false := beq_eq_false_iff_ne.2 p3
              have e4 : ((c.toNat : Int) == 92) = false := beq_eq_false_iff_ne.2 p4
              have HV : Hid (((l.take (k + 1)).flatMap showB).length = f + 1) := by rw [HFS.out, List.length_append, HF.out]; unfold showB; rw [if_pos (by unfold plainB; exact decide_eq_true (by omega))]; rfl
              go_wp2
              go_round
              case rel => exact ⟨k + 1, by omega, by go_num, by rw [HV.out]; go_num⟩
              case measure => simp [intOf]; omega
    · obtain rfl : k = z := by omega
      have ha : l.take k = l := List.take_of_length_le (by rw [← HZL.out]; exact Nat.le_refl _)
      rw [ha]
      have ht0 : ∀ hh, t[0]'hh = 34 := fun hh => HTA.out 0 hh
      obtain ⟨f, hf⟩ : ∃ f, (l.flatMap showB).length = f := ⟨_, rfl⟩
      have hts := HTS.out
      rw [hf] at hts hfl ⊢
      have hte : ∀ hh, t[1 + f]'hh = 34 := fun hh => by
        rw [HTA.out (1 + f) hh]
        have := HQL.out
        rw [HQN.out, hf, show 2 + f - 1 = 1 + f by omega] at this
        exact this
      clear ha hf
      go_wp2
      go_loop [8] (fun i => ∃ j : Nat, j ≤ 2 + f ∧ i = .int .i64 (j : Int)) (fun i => 2 + f - (intOf i).toNat)
      case atStart => exact ⟨0, Nat.zero_le _, rfl⟩
      case round =>
        obtain ⟨j, hj, rfl⟩ := hrel
        by_cases hjl : j < 2 + f
        · have hqn := HQN.out
          obtain ⟨c, hc⟩ : ∃ c, (quoteB l).getD j 0 = c := ⟨_, rfl⟩
          have htj : ∀ hh, t[j]'hh = c := fun hh => by rw [← hc]; exact HTA.out j hh
          have hcr := HQR.out c (hc ▸ getD_mem (by rw [hqn]; have := HTS.out; omega))
          have p1 : ¬ ((c.toNat : Int) < 32) := by omega
          have p2 : ¬ ((126 : Int) < c.toNat) := by omega
          clear hqn hc hcr
          go_wp2
          go_round
          case rel => exact ⟨j + 1, by omega, by go_num⟩
          case measure => simp [intOf]; omega
        · obtain rfl : j = 2 + f := by omega
          go_wp2_with (first | ((with_reducible refine (HN.out w2).mono ?_); rintro y w3 ⟨rfl, hE3⟩; have E3 := E2.trans hE3) | ((with_reducible refine (HD.out w3 (hT.ev E3)).mono ?_); rintro y w4 ⟨rfl, hE4⟩; have E4 := E3.trans hE4))
          have hlen := Lib.itoa_length_le n h0 h1
          have HK := Lib.hid (fun w (h : Tab w) => known_any w h)
          have hT4 := hT.ev E4
          clear HS HW HTA HSA HQL HQN HQR HTS HSZ HZL ht0 hte
          by_cases hneg : n < 0
          · obtain ⟨u, hu⟩ : ∃ u : Nat, n.natAbs = u := ⟨_, rfl⟩
            have hnu : n = -(u : Int) := by omega
            have hit : Lib.itoa n = 45 :: Lib.decDigits u := by unfold Lib.itoa; rw [if_pos hneg, hu]
            have hu1 : 1 ≤ u := by omega
            have hd0 : ∀ hh, d[0]'hh = 45 := fun hh => by rw [HDA.out 0 hh, hit]; rfl
            have hdj : ∀ j hh, d[j + 1]'hh = (Lib.decDigits u).getD j 0 := fun j hh => by rw [HDA.out (j + 1) hh, hit]; rfl
            have hdz : d.size = (Lib.decDigits u).length + 1 := by rw [HDS.out, hit]; rfl
            have hrg := dec_range u
            have hld := dec_lead u hu1
            have hvl := dec_val u
            rw [hit] at hlen
            simp only [List.length_cons] at hlen
            generalize Lib.decDigits u = ds at *
            obtain ⟨D, hD⟩ : ∃ D, ds.length = D := ⟨_, rfl⟩
            rw [hD] at hdz hlen
            have HJ := Lib.hid hdj; have HRG := Lib.hid hrg; have HLD := Lib.hid hld; have HVL := Lib.hid hvl; have HDD := Lib.hid hD; have HNU := Lib.hid hnu
            clear hdj hrg hld hvl hD hit HDA HDS hu hnu
            go_loop [10, 11] (fun b i => ∃ m : Nat, m ≤ D + 1 ∧ i = .int .i64 (m : Int) ∧ b = .int .i64 (-(dval (ds.take (m - 1)) : Int))) (fun _ i => D + 1 - (intOf i).toNat)
            case atStart => exact ⟨0, Nat.zero_le _, rfl, by simp [dval]⟩
            case round =>
              obtain ⟨m, hm, rfl, rfl⟩ := hrel
              by_cases hml : m < D + 1
              · by_cases hm0 : m = 0
                · subst hm0
                  simp only [Nat.zero_sub, List.take_zero]
                  have hdv : dval [] = 0 := rfl
                  rw [hdv]
                  go_wp2
                  go_round
                  case rel => exact ⟨1, by omega, by go_num, by simp [dval]⟩
                  case measure => simp [intOf]
                · obtain ⟨j, rfl⟩ : ∃ j, m = j + 1 := ⟨m - 1, by omega⟩
                  obtain ⟨c, hc⟩ : ∃ c, ds.getD j 0 = c := ⟨_, rfl⟩
                  have hcj : ∀ hh, d[j + 1]'hh = c := fun hh => by rw [← hc]; exact HJ.out j hh
                  have hjD : j < ds.length := by rw [HDD.out]; omega
                  obtain ⟨r1, r2⟩ := HRG.out c (hc ▸ getD_mem hjD)
                  have hz0 : j = 0 → c.toNat ≠ 48 := fun h => by subst h; rw [← hc]; exact HLD.out
                  have hstep : dval (ds.take (j + 1)) = dval (ds.take j) * 10 + (c.toNat - 48) := by
                    rw [List.take_add_one, List.getElem?_eq_getElem hjD]
                    have : ds[j] = c := by rw [← hc]; simp [List.getD, hjD]
                    rw [this]
                    exact dval_snoc _ _
                  have hle := dval_take ds (j + 1)
                  rw [HVL.out, hstep] at hle
                  have hnu := HNU.out
                  have hb : dval (ds.take j) * 10 + (c.toNat - 48) ≤ 9223372036854775808 := by omega
                  have HST := Lib.hid hstep
                  rw [show j + 1 - 1 = j by omega]
                  clear hc hstep hle hnu
                  generalize dval (ds.take j) = a at *
                  have e45 : ((c.toNat : Int) == 45) = false := beq_eq_false_iff_ne.2 (by omega)
                  have q1 : ¬ ((c.toNat : Int) < 48) := by omega
                  have q2 : ¬ ((57 : Int) < c.toNat) := by omega
                  have e0 : ¬ ((j : Int) + 1 = 0) := by omega
                  by_cases h48 : (c.toNat : Int) = 48
                  · have e48 : ((c.toNat : Int) == 48) = true := beq_iff_eq.2 h48
                    have ej : ¬ ((j : Int) + 1 = 1) := by have := hz0; omega
                    go_wp2
                    go_round
                    case rel => exact ⟨j + 1 + 1, by omega, by go_num, by rw [show j + 1 + 1 - 1 = j + 1 by omega, HST.out]; go_num⟩
                    case measure => simp [intOf]; omega
                  · have e48 : ((c.toNat : Int) == 48) = false := beq_eq_false_iff_ne.2 h48
                    go_wp2
                    go_round
                    case rel => exact ⟨j + 1 + 1, by omega, by go_num, by rw [show j + 1 + 1 - 1 = j + 1 by omega, HST.out]; go_num⟩
                    case measure => simp [intOf]; omega
              · obtain rfl : m = D + 1 := by omega
                have hbk : -((dval (ds.take (D + 1 - 1)) : Nat) : Int) = n := by rw [show D + 1 - 1 = D by omega, List.take_of_length_le (by rw [HDD.out]; exact Nat.le_refl _), HVL.out]; exact HNU.out.symm
                rw [hbk]
                clear hbk
                go_wp2_with (first | ((with_reducible refine (HK.out w4 hT4).mono ?_); rintro y w5 ⟨rfl, hE5⟩))
                go_ret
                exact ⟨rfl, E4.trans hE5⟩
          · obtain ⟨u, hu⟩ : ∃ u : Nat, n.toNat = u := ⟨_, rfl⟩
            have hnu : n = (u : Int) := by omega
            have hit : Lib.itoa n = Lib.decDigits u := by unfold Lib.itoa; rw [if_neg hneg, hu]
            have hdj : ∀ j hh, d[j]'hh = (Lib.decDigits u).getD j 0 := fun j hh => by rw [HDA.out j hh, hit]
            have hdz : d.size = (Lib.decDigits u).length := by rw [HDS.out, hit]
            have hrg := dec_range u
            have hld := dec_lead u
            have hsm := dec_small u
            have hvl := dec_val u
            have hps := dec_pos u
            rw [hit] at hlen
            generalize Lib.decDigits u = ds at *
            obtain ⟨D, hD⟩ : ∃ D, ds.length = D := ⟨_, rfl⟩
            rw [hD] at hdz hlen hsm hps
            obtain ⟨c0, hc0⟩ : ∃ c, ds.getD 0 0 = c := ⟨_, rfl⟩
            have hd0 : ∀ hh, d[0]'hh = c0 := fun hh => by rw [← hc0]; exact hdj 0 hh
            obtain ⟨r01, r02⟩ := hrg c0 (hc0 ▸ getD_mem (by rw [hD]; exact hps))
            have e045 : ((c0.toNat : Int) == 45) = false := beq_eq_false_iff_ne.2 (by omega)
            have hz0 : c0.toNat = 48 → D = 1 := fun h => hsm (by
              rcases Nat.lt_or_ge u 1 with h1 | h1
              · omega
              · exact absurd (hc0 ▸ h) (hld h1))
            have HJ := Lib.hid hdj; have HRG := Lib.hid hrg; have HVL := Lib.hid hvl; have HDD := Lib.hid hD; have HNU := Lib.hid hnu; have HC0 := Lib.hid hc0; have HZ := Lib.hid hz0
            clear hdj hrg hld hvl hD hit HDA HDS hu hnu hsm hc0 hz0
            have hn0 : ¬ (n < 0) := hneg
            go_loop [10, 11] (fun b i => ∃ m : Nat, m ≤ D ∧ i = .int .i64 (m : Int) ∧ b = .int .i64 (dval (ds.take m) : Int)) (fun _ i => D - (intOf i).toNat)
            case atStart => exact ⟨0, Nat.zero_le _, rfl, by simp [dval]⟩
            case round =>
              obtain ⟨m, hm, rfl, rfl⟩ := hrel
              by_cases hml : m < D
              · obtain ⟨c, hc⟩ : ∃ c, ds.getD m 0 = c := ⟨_, rfl⟩
                have hcj : ∀ hh, d[m]'hh = c := fun hh => by rw [← hc]; exact HJ.out m hh
                have hjD : m < ds.length := by rw [HDD.out]; omega
                obtain ⟨r1, r2⟩ := HRG.out c (hc ▸ getD_mem hjD)
                have hstep : dval (ds.take (m + 1)) = dval (ds.take m) * 10 + (c.toNat - 48) := by
                  rw [List.take_add_one, List.getElem?_eq_getElem hjD]
                  have : ds[m] = c := by rw [← hc]; simp [List.getD, hjD]
                  rw [this]
                  exact dval_snoc _ _
                have hle := dval_take ds (m + 1)
                rw [HVL.out, hstep] at hle
                have hnu := HNU.out
                have hb : dval (ds.take m) * 10 + (c.toNat - 48) ≤ 9223372036854775807 := by omega
                have HST := Lib.hid hstep
                have hcc : m = 0 → c = c0 := fun h => by subst h; rw [← hc]; exact HC0.out
                clear hc hstep hle hnu
                generalize dval (ds.take m) = a at *
                have e45 : ((c.toNat : Int) == 45) = false := beq_eq_false_iff_ne.2 (by omega)
                have q1 : ¬ ((c.toNat : Int) < 48) := by omega
                have q2 : ¬ ((57 : Int) < c.toNat) := by omega
                by_cases h48 : (c.toNat : Int) = 48
                · have e48 : ((c.toNat : Int) == 48) = true := beq_iff_eq.2 h48
                  by_cases hm0 : m = 0
                  · subst hm0
                    obtain rfl := hcc rfl
                    have hD1 := HZ.out (by omega)
                    have g1 : ¬ ((1 : Int) < D) := by omega
                    clear hcc
                    go_wp2
                    go_round
                    case rel => exact ⟨1, by omega, by go_num, by rw [HST.out]; go_num⟩
                    case measure => simp [intOf]; omega
                  · clear hcc
                    have e0 : ¬ ((m : Int) = 0) := by omega
                    by_cases hm1 : m = 1
                    · subst hm1
                      have g1 : (1 : Int) < D := by omega
                      go_wp2
                      go_round
                      case rel => exact ⟨2, by omega, by go_num, by rw [HST.out]; go_num⟩
                      case measure => simp [intOf]; omega
                    · have e1 : ¬ ((m : Int) = 1) := by omega
                      have g1 : (1 : Int) < D := by omega
                      go_wp2
                      go_round
                      case rel => exact ⟨m + 1, by omega, by go_num, by rw [HST.out]; go_num⟩
                      case measure => simp [intOf]; omega
                · have e48 : ((c.toNat : Int) == 48) = false := beq_eq_false_iff_ne.2 h48
                  clear hcc
                  go_wp2
                  go_round
                  case rel => exact ⟨m + 1, by omega, by go_num, by rw [HST.out]; go_num⟩
                  case measure => simp [intOf]; omega
              · obtain rfl : m = D := by omega
                have hbk : ((dval (ds.take m) : Nat) : Int) = n := by rw [List.take_of_length_le (by rw [HDD.out]; exact Nat.le_refl _), HVL.out]; exact HNU.out.symm
                rw [hbk]
                clear hbk
                go_wp2_with (first | ((with_reducible refine (HK.out w4 hT4).mono ?_); rintro y w5 ⟨rfl, hE5⟩))
                go_ret
                exact ⟨rfl, E4.trans hE5⟩

theorem vs_walk (n : Int) (s : ByteArray) (w : World) (hT : Tab w) (h0 : -9223372036854775808 ≤ n) (h1 : n ≤ 9223372036854775807) :
    Calls Tryd.prog 6 #[.int .i64 n, .string s] w fun e w' => e = .returned (.bool true) ∧ Ev w w' := by
  by_cases hs : s.size ≤ 40
  · exact vs_walk_short n s w hT h0 h1 hs
  · exact vs_walk_long n s _ w hT h0 h1 rfl (by omega) (by rw [ByteArray.size_extract]; omega)
end Go.Proofs.YtdakcljjmbhbgaaDoor
