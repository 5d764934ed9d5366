/-
  Texts that belong together: Package expr: all parts of an expression; is it one that Read makes? Package expr: is an expression one that Read makes? Package expr: the kinds of what operations make. Package expr: the kind of an expression's value. Package expr: Type; what is evaluated is fair; choose.
-/
import Derived.Test.YtgiofdmedhhobaaZ14N
import Derived.Test.YtgiofdmedhhobaaZ8N
namespace Go.Proofs.Ytgiofdmedhhobaa
open Go.RowKit
set_option linter.unusedVariables false

/-- Does every part bear p? -/
def everyL (p : T → Bool) (l : List T) : Bool := l.all p
mutual
def T.every (p : T → Bool) : T → Bool
  | .mk k s n l q => p (.mk k s n l q) && T.everys p l
def T.everys (p : T → Bool) : List T → Bool
  | [] => true
  | t :: l => t.every p && T.everys p l
end
theorem T.everys_all (p : T → Bool) : ∀ l : List T, T.everys p l = l.all (T.every p)
  | [] => rfl
  | t :: l => by simp [T.everys, T.everys_all p l]
theorem T.every_eq (p : T → Bool) (t : T) : t.every p = (p t && t.kids.all (T.every p)) := by
  cases t
  rw [T.every, T.everys_all]
  rfl
theorem T.size_eq (t : T) : t.size = (t.kids.map T.size).sum + 1 := by
  cases t
  rw [T.size, T.sizes_sum]
  rfl
mutual
theorem xRight_every : ∀ t : T, xRight t = t.every fun x => !xForeign x
  | .mk k s n l q => by rw [xRight, T.every, xRights_every l]
theorem xRights_every : ∀ l : List T, xRights l = T.everys (fun x => !xForeign x) l
  | [] => rfl
  | t :: l => by rw [xRights, T.everys, xRight_every t, xRights_every l]
end
theorem T.size_pos (t : T) : 1 ≤ t.size := by rw [T.size_eq]; omega
theorem sum_len : ∀ l : List T, l.length ≤ (l.map T.size).sum
  | [] => by simp
  | t :: l => by
    have := sum_len l
    have := T.size_pos t
    simp
    omega

theorem sizes_len : ∀ l : List T, l.length ≤ T.sizes l := fun l => by rw [T.sizes_sum]; exact sum_len l
mutual
theorem every_short (N : Nat) : ∀ t : T, t.size ≤ N → t.every (fun x => decide (x.kids.length ≤ N)) = true
  | .mk k s n l q, h => by
    rw [T.size] at h
    have := sizes_len l
    rw [T.every, everys_short N l (by omega)]
    show (decide (l.length ≤ N) && true) = true
    rw [decide_eq_true (by omega)]
    rfl
theorem everys_short (N : Nat) : ∀ l : List T, T.sizes l ≤ N → T.everys (fun x => decide (x.kids.length ≤ N)) l = true
  | [], _ => rfl
  | t :: l, h => by
    rw [T.sizes] at h
    rw [T.everys, every_short N t (by omega), everys_short N l (by omega)]
    rfl
end
/-- The function isForeign as a value. -/
abbrev isForeignV : Value := .func (.func 48) #[] #[]
abbrev kidsV : Value := .func (.func 39) #[] #[]
/-- Sizes that a machine can hold. -/
def Fair (m : M) : Prop := m.s.length ≤ 1000000 ∧ m.kids.length ≤ 1000000
def foreignM (m : M) : Bool := xForeign m.t
theorem foreign_at (m : M) (hF : Fair m) (w : World) : Calls Try.prog 48 #[ev_ m] w fun e w' => e = .returned (.bool (foreignM m)) ∧ Ev w w' := by
  unfold foreignM
  rw [xForeign_p]
  exact ex_isForeign m.kind m.s m.n m.A m.kids.length m.cap w hF.1 hF.2

set_option maxRecDepth 100000 in
set_option maxHeartbeats 1600000 in
theorem ex_indexFunc {A : Option Addr} {n cap : Nat} {Z : List M} (w : World) (h : Es w A n cap Z) (hf : ∀ z ∈ Z, Fair z) :
    Calls Try.prog 67 #[.slice A n cap, isForeignV] w fun e w' => (∃ i : Int, e = .returned (.int .i64 i) ∧ (decide (0 ≤ i) = Z.any foreignM)) ∧ Ev w w' := by
  have hn := h.le
  have hm := h.max
  have HN := Lib.hid h.len
  have HF0 := Lib.hid hf
  clear hf
  go_enter Try.func67, Try.ntmps67
  go_wp2
  go_loopw [8] (fun i wr => ∃ k : Nat, k ≤ n ∧ i = .int .i64 (k : Int) ∧ Hid ((Z.take k).any foreignM = false) ∧ Ev w wr) (fun i _ => n - (intOf i).toNat)
  case atStart => exact ⟨0, Nat.zero_le _, rfl, Lib.hid rfl, Ev.refl _⟩
  case round =>
    obtain ⟨k, hk, rfl, HF, hE⟩ := hrel
    by_cases hlt : k < n
    · obtain ⟨z, hx⟩ := h.at hlt
      obtain ⟨b, off, rfl, hb, c0, c1, c2, c3⟩ := Es.cell (h.ev hE) hx
      have HI := fun w1 => foreign_at z (HF0.out z (List.mem_of_getElem? hx)) w1
      have HX := Lib.hid hx
      clear hx
      generalize hz : foreignM z = y at HI
      have HZ := Lib.hid hz
      clear hz
      unfold ev_ M.kv at HI
      unfold M.kv at c3
      have HI := Lib.hid HI
      have i1 : (0 : Int) ≤ (k : Int) := by omega
      have i2 : (k : Int) < (n : Int) := by omega
      cases y
      · go_wp2_with (first | ((with_reducible refine (HI.out _).mono ?_); rintro e w1 ⟨rfl, hE1⟩))
        go_roundw
        case rel =>
          refine ⟨k + 1, by omega, by go_num, Lib.hid ?_, hE.trans hE1⟩
          obtain ⟨hk2, e⟩ := List.getElem?_eq_some_iff.1 HX.out
          rw [List.take_succ_eq_append_getElem hk2, List.any_append, HF.out, e]
          simp [HZ.out]
        case measure => simp [intOf]; omega
      · go_wp2_with (first | ((with_reducible refine (HI.out _).mono ?_); rintro e w1 ⟨rfl, hE1⟩))
        go_ret
        refine ⟨⟨k, rfl, ?_⟩, hE.trans hE1⟩
        rw [decide_eq_true i1]
        exact (List.any_eq_true.2 ⟨_, List.mem_of_getElem? HX.out, HZ.out⟩).symm
    · obtain rfl : k = n := by omega
      go_wp2
      go_ret
      refine ⟨⟨-1, rfl, ?_⟩, hE⟩
      have := HF.out
      rw [List.take_of_length_le (by rw [HN.out]; exact Nat.le_refl _)] at this
      rw [this]; rfl

set_option maxRecDepth 100000 in
set_option maxHeartbeats 1600000 in
theorem ex_containsFunc {A : Option Addr} {n cap : Nat} {Z : List M} (w : World) (h : Es w A n cap Z) (hf : ∀ z ∈ Z, Fair z) :
    Calls Try.prog 47 #[.slice A n cap, isForeignV] w fun e w' => e = .returned (.bool (Z.any foreignM)) ∧ Ev w w' := by
  have HI := Lib.hid (ex_indexFunc w h hf)
  generalize Z.any foreignM = y at *
  clear hf
  go_enter Try.func47, Try.ntmps47
  go_wp2_with (first | ((with_reducible refine HI.out.mono ?_); rintro e w1 ⟨⟨i, rfl, rfl⟩, hE1⟩))
  go_ret
  exact ⟨rfl, hE1⟩

theorem Try.infoExpr : (Try.prog.info? 39).map (fun i => (i.zero, i.size, i.bytes)) = some (some (.agg #[.int .i64 0, .string ⟨#[]⟩, .int .i64 0, .slice none 0 0]), 4, 56) := by kernel_rfl
/-- How far the parts are gathered: i of them have been looked at. -/
structure PtSt (m : M) (b0 : Nat) (w0 : World) (v : Value) (L : List M) (i : Nat) (w : World) : Prop where
  own : Ow 39 4 ec w0.heap.size w v L
  ev : Ev w0 w
  lies : ∀ x ∈ L, Lx b0 [] w0 x
  le : i ≤ L.length
  size : i + ((L.drop i).map fun x => x.t.size).sum = m.t.size
  all : ∀ p : T → Bool, (((L.take i).all fun x => p x.t) && ((L.drop i).all fun x => x.t.every p)) = m.t.every p
theorem PtSt.init {m : M} {b0 : Nat} {w : World} {v : Value} {w1 : World} (hL : Lx b0 [] w m) (hE : Ev w w1) (ho : Ow 39 4 ec w.heap.size w1 v [m]) : PtSt m b0 w v [m] 0 w1 :=
  ⟨ho, hE, fun x hx => by simp at hx; subst hx; exact hL, by simp, by simp, fun p => by simp⟩
theorem PtSt.short {m : M} {b0 : Nat} {w0 w : World} {v : Value} {L : List M} {i : Nat} (h : PtSt m b0 w0 v L i w) : L.length ≤ m.t.size := by
  have h1 := sum_len ((L.drop i).map M.t)
  rw [List.length_map, List.length_drop, List.map_map] at h1
  have h2 := h.size
  have h3 := h.le
  have : (T.size ∘ M.t) = (fun x : M => x.t.size) := rfl
  rw [this] at h1
  omega
theorem PtSt.next {m : M} {b0 : Nat} {w0 w w' : World} {v v' : Value} {L : List M} {i : Nat} {x : M} (h : PtSt m b0 w0 v L i w) (hx : L[i]? = some x) (ho : Ow 39 4 ec w0.heap.size w' v' (L ++ x.kids)) (hE : Ev w0 w') : PtSt m b0 w0 v' (L ++ x.kids) (i + 1) w' := by
  obtain ⟨hi, hxe⟩ := List.getElem?_eq_some_iff.1 hx
  have hd : L.drop i = x :: L.drop (i + 1) := by rw [List.drop_eq_getElem_cons hi, hxe]
  have hd2 : (L ++ x.kids).drop (i + 1) = L.drop (i + 1) ++ x.kids := by rw [List.drop_append_of_le_length hi]
  have ht2 : (L ++ x.kids).take (i + 1) = L.take i ++ [x] := by rw [List.take_append_of_le_length hi, List.take_succ_eq_append_getElem hi, hxe]
  refine ⟨ho, hE, fun y hy => ?_, by rw [List.length_append]; omega, ?_, fun p => ?_⟩
  · rcases List.mem_append.1 hy with h1 | h1
    · exact h.lies y h1
    · exact (h.lies x (List.mem_of_getElem? hx)).kid y h1
  · have h1 := h.size
    rw [hd] at h1
    rw [hd2]
    have h2 := T.size_eq x.t
    rw [M.t_kids, List.map_map] at h2
    have : (T.size ∘ M.t) = (fun x : M => x.t.size) := rfl
    rw [this] at h2
    simp only [List.map_append, List.sum_append, List.map_cons, List.sum_cons] at h1 ⊢
    omega
  · have h1 := h.all p
    rw [hd] at h1
    rw [hd2, ht2, ← h1]
    simp only [List.all_append, List.all_cons, List.all_nil, Bool.and_true]
    rw [T.every_eq p x.t, M.t_kids, List.all_map]
    have : (T.every p ∘ M.t) = (fun x : M => x.t.every p) := rfl
    rw [this]
    cases (L.take i).all (fun x => p x.t) <;> cases p x.t <;> cases x.kids.all (fun x => x.t.every p) <;> cases (L.drop (i + 1)).all (fun x => x.t.every p) <;> rfl

set_option maxRecDepth 100000 in
set_option maxHeartbeats 1600000 in
theorem ex_parts (m : M) (b0 : Nat) (w : World) (h : Lx b0 [] w m) (hsz : m.t.size ≤ 16000) :
    Calls Try.prog 38 #[ev_ m, kidsV] w fun e w' => ∃ (A : Option Addr) (n cap : Nat) (L : List M), e = .returned (.tuple #[.slice A n cap, .bool true]) ∧ Es w' A n cap L ∧
      (∀ x ∈ L, Lx b0 [] w x) ∧ (∀ p : T → Bool, (L.all fun x => p x.t) = m.t.every p) ∧ n ≤ 16000 ∧ Ev w w' := by
  have hE0 := (Ev.alloc w (.cells #[.int .i64 m.kind, .string ⟨m.s.toArray⟩, .int .i64 m.n, m.kv] 39)).trans (Ev.alloc _ (.cells #[.int .i64 m.kind, .string ⟨m.s.toArray⟩, .int .i64 m.n, m.kv] 39))
  have hP := PtSt.init (v := .slice (some ⟨w.heap.size + 1, 0, none⟩) 1 1) h hE0 (by
    have := Ow.made (et := 39) (base := w.heap.size) encE (w.alloc (.cells #[.int .i64 m.kind, .string ⟨m.s.toArray⟩, .int .i64 m.n, m.kv] 39)) [m] #[.int .i64 m.kind, .string ⟨m.s.toArray⟩, .int .i64 m.n, m.kv] rfl (by simp) (by simp)
    simpa using this)
  have HP := Lib.hid hP
  have HK := Lib.hid (fun x w1 => ex_kids x w1)
  clear hP hE0
  unfold ev_
  unfold M.kv at *
  go_enter Try.func38, Try.ntmps38
  go_wp2
  go_loopw [6, 7] (fun av iv wr => ∃ (A : Option Addr) (n cap i : Nat) (L : List M), av = .slice A n cap ∧ iv = .int .i64 (i : Int) ∧ n = L.length ∧ Hid (PtSt m b0 w (.slice A n cap) L i wr)) (fun _ iv _ => m.t.size - (intOf iv).toNat)
  case atStart => exact ⟨_, 1, 1, 0, [m], rfl, rfl, rfl, HP⟩
  case round =>
    obtain ⟨A, n, cap, i, L, rfl, rfl, hn, HS⟩ := hrel
    have hns := HS.out.short
    rw [← hn] at hns
    have HNL := Lib.hid hn
    clear hn
    obtain ⟨_, cap', hvv, hSl, hA⟩ := HS.out.own.form encE
    injection hvv with h1 h2 h3
    subst h1
    subst h3
    clear h2
    rw [← HNL.out] at hSl
    have hnc := hSl.le
    have hcm := hSl.max
    by_cases hi : i < n
    · obtain ⟨x, hx⟩ := hSl.at hi
      obtain ⟨b, off, rfl, hb, c0, c1, c2, c3⟩ := Es.cell hSl hx
      have HX := Lib.hid hx
      have hLx := HS.out.lies x (List.mem_of_getElem? hx)
      have hEs := hLx.es
      have hks : x.kids.length + n ≤ m.t.size := by
        have h4 := HS.out.size
        have hd : L.drop i = x :: L.drop (i + 1) := by
          obtain ⟨hi', e⟩ := List.getElem?_eq_some_iff.1 hx
          rw [List.drop_eq_getElem_cons hi', e]
        rw [hd] at h4
        have h5 := T.size_eq x.t
        rw [M.t_kids, List.map_map] at h5
        have h6 := sum_len (x.kids.map M.t)
        rw [List.length_map, List.map_map] at h6
        have h7 := sum_len ((L.drop (i + 1)).map M.t)
        rw [List.length_map, List.map_map, List.length_drop, ← HNL.out] at h7
        have : (T.size ∘ M.t) = (fun x : M => x.t.size) := rfl
        rw [this] at h5 h6 h7
        simp only [List.map_cons, List.sum_cons] at h4
        omega
      have HEs := Lib.hid hEs
      have HKx := HK.out x
      unfold ev_ M.kv at HKx
      unfold M.kv at c3
      have HKx := Lib.hid HKx
      obtain ⟨kn, hkn⟩ : ∃ kn, kn = x.kids.length := ⟨_, rfl⟩
      rw [← hkn] at HKx HEs c3 hks
      have HKN := Lib.hid hkn
      have i1 : (0 : Int) ≤ (i : Int) := by omega
      have i2 : (i : Int) < (n : Int) := by omega
      have i3 : ¬ ((16384 : Int) - (n : Int) < (kn : Int)) := by omega
      have hnc' := hnc
      clear hx hEs hkn hLx hA hSl hnc' hb
      go_wp2_with (first
        | ((with_reducible refine (HKx.out _).mono ?_); rintro e w1 ⟨rfl, hE1⟩)
        | ((show wpList _ _ _ (⟨some 31, _, _, _, _, _⟩ :: _) _ _); refine wpList_append_ow (o := ⟨some 31, _, _, _, _, _⟩) rfl 37 (.tmp 29) (.tmp 30) rfl encE Try.underlying37 Try.infoExpr rfl rfl (HS.out.own.ev hE1) x.A kn x.cap x.kids rfl (HEs.out.ev (HS.out.ev.trans hE1)) (by rw [← HKN.out, ← HNL.out]; omega) (by rw [← HKN.out, ← HNL.out]; omega) (HS.out.ev.trans hE1).size ?_; intro v2 w2 hA2; have E2 := ((But.of_ev (HS.out.ev.trans hE1)).then hA2.2.1).ev (fun k hk => (HS.out.own.lt (mem_foot.1 hk)).1); have S2 := HS.out.next HX.out hA2.1 E2; obtain ⟨A2, cap2, rfl, _, _⟩ := hA2.1.form encE; generalize hnn : (L ++ x.kids).length = nn at S2 ⊢; have HNN2 := Lib.hid hnn.symm; clear hnn))
      go_roundw
      case rel => exact ⟨A2, nn, cap2, i + 1, _, rfl, by go_num, HNN2.out, Lib.hid S2⟩
      case measure => simp [intOf]; omega
    · have hin : i = L.length := by have := HS.out.le; have := HNL.out; omega
      have i2 : ¬ ((i : Int) < (n : Int)) := by omega
      have HIN := Lib.hid hin
      clear hin
      go_wp2
      go_ret2
      refine ⟨_, _, _, rfl, L, hSl, HS.out.lies, fun p => ?_, by omega, HS.out.ev⟩
      have := HS.out.all p
      rw [HIN.out, List.take_length, List.drop_length] at this
      simpa using this

end Go.Proofs.Ytgiofdmedhhobaa

namespace Go.Proofs.Ytgiofdmedhhobaa
open Go.RowKit
set_option linter.unusedVariables false

set_option maxRecDepth 100000 in
set_option maxHeartbeats 1600000 in
theorem ex_isRight (m : M) (b0 : Nat) (w : World) (h : Lx b0 [] w m) (hsz : m.t.size ≤ 16000) (hf : m.t.every (fun t => decide (t.s.length ≤ 1000000)) = true) :
    Calls Try.prog 30 #[ev_ m] w fun e w' => e = .returned (.bool (xRight m.t)) ∧ Ev w w' := by
  have HP := fun w1 (hE : Ev w w1) => ex_parts m b0 w1 (h.ev hE) hsz
  unfold ev_ at HP ⊢
  have HP := Lib.hid HP
  have HF := Lib.hid hf
  have HR := Lib.hid (xRight_every m.t)
  have hE0 := Ev.alloc w (.cells #[.int .i64 m.kind, .string ⟨m.s.toArray⟩, .int .i64 m.n, m.kv] 39)
  have HE := Lib.hid hE0
  obtain ⟨R, hR⟩ : ∃ R, R = xRight m.t := ⟨_, rfl⟩
  rw [← hR] at HR ⊢
  unfold M.kv at *
  clear hf hR hE0
  go_enter Try.func30, Try.ntmps30
  go_wp2_with (first
    | ((with_reducible refine (HP.out _ HE.out).mono ?_); rintro e w1 ⟨A, n, cap, L, rfl, hL, hLs, hall, hn, hE1⟩; have hfair : ∀ z ∈ L, Fair z := (by
        intro z hz
        have h1 := hall (fun t => decide (t.s.length ≤ 1000000))
        rw [HF.out] at h1
        have h2 := List.all_eq_true.1 h1 z hz
        simp only [decide_eq_true_iff, M.t_s] at h2
        refine ⟨h2, ?_⟩
        have h3 := hall (fun t => decide (t.kids.length ≤ 1000000))
        rw [every_short 1000000 m.t (by omega)] at h3
        have h4 := List.all_eq_true.1 h3 z hz
        simp only [decide_eq_true_iff, M.t_kids, List.length_map] at h4
        exact h4); have HC := Lib.hid (ex_containsFunc w1 hL hfair); have HX : Hid (R = !L.any foreignM) := Lib.hid (by
        rw [HR.out, ← hall]
        rw [List.all_eq_not_any_not]
        simp; rfl); generalize L.any foreignM = y at *)
    | ((with_reducible refine HC.out.mono ?_); rintro e w2 ⟨rfl, hE2⟩))
  go_ret
  exact ⟨by rw [HX.out]; cases y <;> rfl, (HE.out.trans hE1).trans hE2⟩
end Go.Proofs.Ytgiofdmedhhobaa

namespace Go.Proofs.Ytgiofdmedhhobaa
open Go.RowKit
set_option linter.unusedVariables false

theorem two_of {α : Type} : ∀ {l : List α}, l.length = 2 → ∃ a b, l = [a, b]
  | [], h => by simp at h
  | [_], h => by simp at h
  | [a, b], _ => ⟨a, b, rfl⟩
  | _ :: _ :: _ :: _, h => by simp at h
theorem three_of {α : Type} : ∀ {l : List α}, l.length = 3 → ∃ a b c, l = [a, b, c]
  | [], h => by simp at h
  | [_], h => by simp at h
  | [_, _], h => by simp at h
  | [a, b, c], _ => ⟨a, b, c, rfl⟩
  | _ :: _ :: _ :: _ :: _, h => by simp at h
def ic (n : Int) : List Value := [.int .i64 n]
abbrev Ks := Sl 1 ic
theorem encI : Enc 1 ic := ⟨by omega, fun _ => rfl, fun x u hu => by
  simp [ic] at hu
  rw [hu]; rfl⟩
theorem Ks.cell {w : World} {A : Option Addr} {n cap : Nat} {l : List Int} (h : Ks w A n cap l) {i : Nat} {x : Int} (hx : l[i]? = some x) : ∃ b off, A = some ⟨b, off, none⟩ ∧ b < w.heap.size ∧ w.cell? ⟨b, off + i, none⟩ = some (.int .i64 x) := by
  have hi := (List.getElem?_eq_some_iff.1 hx).1
  have hl := h.len
  obtain ⟨b, off, e, hlt, hc⟩ := h.rd (by omega)
  have := hc i x hx 0 _ rfl
  rw [Nat.mul_one, Nat.add_zero] at this
  exact ⟨b, off, e, hlt, this⟩

set_option maxRecDepth 100000 in
set_option maxHeartbeats 800000 in
theorem ex_areAll {A : Option Addr} {n cap : Nat} {l : List Int} (k : Int) (w : World) (h : Ks w A n cap l) :
    Calls Try.prog 68 #[.slice A n cap, .int .i64 k] w fun e w' => e = .returned (.bool (xAll l k)) ∧ w = w' := by
  have hn := h.le
  have hm := h.max
  have HL := Lib.hid h.len
  have HC := Lib.hid (fun i x (hx : l[i]? = some x) => h.cell hx)
  have HA := Lib.hid (fun i (hi : i < n) => h.at hi)
  go_enter Try.func68, Try.ntmps68
  go_wp2
  go_loop [9] (fun iv => ∃ j : Nat, iv = .int .i64 (j : Int) ∧ j ≤ n ∧ Hid ((l.take j).all (· == k) = true)) (fun iv => n - (intOf iv).toNat)
  case atStart => exact ⟨0, rfl, Nat.zero_le _, Lib.hid rfl⟩
  case round =>
    obtain ⟨j, rfl, hj, HJ⟩ := hrel
    by_cases hlt : j < n
    · obtain ⟨x, hx⟩ := HA.out j hlt
      obtain ⟨b, off, rfl, hb, c0⟩ := HC.out j x hx
      have HX := Lib.hid hx
      have i1 : (0 : Int) ≤ (j : Int) := by omega
      have i2 : (j : Int) < (n : Int) := by omega
      clear hx
      by_cases hk : x = k
      · subst hk
        go_wp2
        go_round
        case rel =>
          refine ⟨j + 1, by go_num, by omega, Lib.hid ?_⟩
          obtain ⟨hj2, e⟩ := List.getElem?_eq_some_iff.1 HX.out
          rw [List.take_succ_eq_append_getElem hj2, List.all_append, HJ.out, e]
          simp
        case measure => simp [intOf]; omega
      · have hk' : (x == k) = false := beq_eq_false_iff_ne.2 hk
        go_wp2
        go_ret
        refine ⟨?_, rfl⟩
        have : xAll l k = false := by
          unfold xAll
          rw [List.all_eq_false]
          exact ⟨x, List.mem_of_getElem? HX.out, by simp [hk]⟩
        rw [this]; rfl
    · have i2 : ¬ ((j : Int) < (n : Int)) := by omega
      go_wp2
      go_ret
      refine ⟨?_, rfl⟩
      have := HJ.out
      rw [List.take_of_length_le (by rw [HL.out]; omega)] at this
      unfold xAll
      rw [this]; rfl

set_option maxRecDepth 100000 in
set_option maxHeartbeats 1600000 in
theorem ex_appliedAdd {A : Option Addr} {n cap : Nat} {l : List Int} (w : World) (h : Ks w A n cap l) (hl : l.length = 2) :
    Calls Try.prog 50 #[.string (bstr bAdd), .slice A n cap] w fun e w' => e = .returned (.tuple #[.int .i64 (xApplied bAdd l).1, .int .i64 (xApplied bAdd l).2]) ∧ Ev w w' := by
  unfold bstr bAdd
  have hcm := h.max
  have hle := h.le
  have HA := fun w1 (hE : Ev w w1) => ex_areAll 1 w1 (h.ev hE)
  rw [show xApplied [97, 100, 100] l = if xAll l 1 then (1, 0) else (0, 22) from rfl]
  generalize xAll l 1 = y at *
  have HA := Lib.hid HA
  clear h hl
  cases y <;> (
    go_enter Try.func50, Try.ntmps50
    go_wp2_with (first | ((with_reducible refine (HA.out _ (Ev.refl _)).mono ?_); rintro e w1 ⟨rfl, rfl⟩))
    go_ret2
    exact ⟨rfl, Ev.refl _⟩)

set_option maxRecDepth 100000 in
set_option maxHeartbeats 1600000 in
theorem ex_appliedSub {A : Option Addr} {n cap : Nat} {l : List Int} (w : World) (h : Ks w A n cap l) (hl : l.length = 2) :
    Calls Try.prog 50 #[.string (bstr bSub), .slice A n cap] w fun e w' => e = .returned (.tuple #[.int .i64 (xApplied bSub l).1, .int .i64 (xApplied bSub l).2]) ∧ Ev w w' := by
  unfold bstr bSub
  have hcm := h.max
  have hle := h.le
  have HA := fun w1 (hE : Ev w w1) => ex_areAll 1 w1 (h.ev hE)
  rw [show xApplied [115, 117, 98] l = if xAll l 1 then (1, 0) else (0, 22) from rfl]
  generalize xAll l 1 = y at *
  have HA := Lib.hid HA
  clear h hl
  cases y <;> (
    go_enter Try.func50, Try.ntmps50
    go_wp2_with (first | ((with_reducible refine (HA.out _ (Ev.refl _)).mono ?_); rintro e w1 ⟨rfl, rfl⟩))
    go_ret2
    exact ⟨rfl, Ev.refl _⟩)

set_option maxRecDepth 100000 in
set_option maxHeartbeats 1600000 in
theorem ex_appliedMul {A : Option Addr} {n cap : Nat} {l : List Int} (w : World) (h : Ks w A n cap l) (hl : l.length = 2) :
    Calls Try.prog 50 #[.string (bstr bMul), .slice A n cap] w fun e w' => e = .returned (.tuple #[.int .i64 (xApplied bMul l).1, .int .i64 (xApplied bMul l).2]) ∧ Ev w w' := by
  unfold bstr bMul
  have hcm := h.max
  have hle := h.le
  have HA := fun w1 (hE : Ev w w1) => ex_areAll 1 w1 (h.ev hE)
  rw [show xApplied [109, 117, 108] l = if xAll l 1 then (1, 0) else (0, 22) from rfl]
  generalize xAll l 1 = y at *
  have HA := Lib.hid HA
  clear h hl
  cases y <;> (
    go_enter Try.func50, Try.ntmps50
    go_wp2_with (first | ((with_reducible refine (HA.out _ (Ev.refl _)).mono ?_); rintro e w1 ⟨rfl, rfl⟩))
    go_ret2
    exact ⟨rfl, Ev.refl _⟩)

set_option maxRecDepth 100000 in
set_option maxHeartbeats 1600000 in
theorem ex_appliedEq {A : Option Addr} {n cap : Nat} {l : List Int} (w : World) (h : Ks w A n cap l) (hl : l.length = 2) :
    Calls Try.prog 50 #[.string (bstr bEq), .slice A n cap] w fun e w' => e = .returned (.tuple #[.int .i64 (xApplied bEq l).1, .int .i64 (xApplied bEq l).2]) ∧ Ev w w' := by
  unfold bstr bEq
  have hn : n = 2 := by rw [← h.len, hl]
  subst hn
  obtain ⟨x0, x1, rfl⟩ : ∃ x0 x1, l = [x0, x1] := by
    exact two_of hl
  obtain ⟨b0, off0, e0, hb0, c0⟩ := h.cell (i := 0) (x := x0) rfl
  obtain ⟨b1, off1, e1, hb1, c1⟩ := h.cell (i := 1) (x := x1) rfl
  rw [e0] at e1
  injection e1 with e1
  injection e1 with e1a e1b _
  subst e1a
  subst e1b
  subst e0
  simp only [Nat.add_zero] at c0
  have hcap := h.le
  clear h hl hb0 hb1
  rw [show xApplied [101, 113] [x0, x1] = if x0 == x1 then (1, 0) else (0, 22) from rfl]
  by_cases hx : x0 = x1
  · have g : (x0 == x1) = true := beq_iff_eq.2 hx
    rw [if_pos g]
    clear hx
    go_enter Try.func50, Try.ntmps50
    go_wp2
    go_quiet (fail)
    go_wp2
    go_ret2
    exact ⟨rfl, Ev.drewN _ _⟩
  · have g : (x0 == x1) = false := beq_eq_false_iff_ne.2 hx
    rw [g]
    simp only [Bool.false_eq_true, if_false]
    go_enter Try.func50, Try.ntmps50
    go_wp2
    go_quiet (fail)
    go_wp2
    go_ret2
    exact ⟨rfl, Ev.drewN _ _⟩

set_option maxRecDepth 100000 in
set_option maxHeartbeats 1600000 in
theorem ex_appliedLt {A : Option Addr} {n cap : Nat} {l : List Int} (w : World) (h : Ks w A n cap l) (hl : l.length = 2) :
    Calls Try.prog 50 #[.string (bstr bLt), .slice A n cap] w fun e w' => e = .returned (.tuple #[.int .i64 (xApplied bLt l).1, .int .i64 (xApplied bLt l).2]) ∧ Ev w w' := by
  unfold bstr bLt
  have hn : n = 2 := by rw [← h.len, hl]
  subst hn
  obtain ⟨x0, x1, rfl⟩ : ∃ x0 x1, l = [x0, x1] := by
    exact two_of hl
  obtain ⟨b0, off0, e0, hb0, c0⟩ := h.cell (i := 0) (x := x0) rfl
  obtain ⟨b1, off1, e1, hb1, c1⟩ := h.cell (i := 1) (x := x1) rfl
  rw [e0] at e1
  injection e1 with e1
  injection e1 with e1a e1b _
  subst e1a
  subst e1b
  subst e0
  simp only [Nat.add_zero] at c0
  have hcap := h.le
  clear h hl hb0 hb1
  rw [show xApplied [108, 116] [x0, x1] = if x0 == x1 then (1, 0) else (0, 22) from rfl]
  by_cases hx : x0 = x1
  · have g : (x0 == x1) = true := beq_iff_eq.2 hx
    rw [if_pos g]
    clear hx
    go_enter Try.func50, Try.ntmps50
    go_wp2
    go_quiet (fail)
    go_wp2
    go_ret2
    exact ⟨rfl, Ev.drewN _ _⟩
  · have g : (x0 == x1) = false := beq_eq_false_iff_ne.2 hx
    rw [g]
    simp only [Bool.false_eq_true, if_false]
    go_enter Try.func50, Try.ntmps50
    go_wp2
    go_quiet (fail)
    go_wp2
    go_ret2
    exact ⟨rfl, Ev.drewN _ _⟩

set_option maxRecDepth 100000 in
set_option maxHeartbeats 1600000 in
theorem ex_appliedAnd {A : Option Addr} {n cap : Nat} {l : List Int} (w : World) (h : Ks w A n cap l) (hl : l.length = 2) :
    Calls Try.prog 50 #[.string (bstr bAnd), .slice A n cap] w fun e w' => e = .returned (.tuple #[.int .i64 (xApplied bAnd l).1, .int .i64 (xApplied bAnd l).2]) ∧ Ev w w' := by
  unfold bstr bAnd
  have hcm := h.max
  have hle := h.le
  have HA := fun w1 (hE : Ev w w1) => ex_areAll 1 w1 (h.ev hE)
  rw [show xApplied [97, 110, 100] l = if xAll l 1 then (1, 0) else (0, 22) from rfl]
  generalize xAll l 1 = y at *
  have HA := Lib.hid HA
  clear h hl
  cases y <;> (
    go_enter Try.func50, Try.ntmps50
    go_wp2_with (first | ((with_reducible refine (HA.out _ (Ev.refl _)).mono ?_); rintro e w1 ⟨rfl, rfl⟩))
    go_ret2
    exact ⟨rfl, Ev.refl _⟩)

set_option maxRecDepth 100000 in
set_option maxHeartbeats 1600000 in
theorem ex_appliedOr {A : Option Addr} {n cap : Nat} {l : List Int} (w : World) (h : Ks w A n cap l) (hl : l.length = 2) :
    Calls Try.prog 50 #[.string (bstr bOr), .slice A n cap] w fun e w' => e = .returned (.tuple #[.int .i64 (xApplied bOr l).1, .int .i64 (xApplied bOr l).2]) ∧ Ev w w' := by
  unfold bstr bOr
  have hcm := h.max
  have hle := h.le
  have HA := fun w1 (hE : Ev w w1) => ex_areAll 1 w1 (h.ev hE)
  rw [show xApplied [111, 114] l = if xAll l 1 then (1, 0) else (0, 22) from rfl]
  generalize xAll l 1 = y at *
  have HA := Lib.hid HA
  clear h hl
  cases y <;> (
    go_enter Try.func50, Try.ntmps50
    go_wp2_with (first | ((with_reducible refine (HA.out _ (Ev.refl _)).mono ?_); rintro e w1 ⟨rfl, rfl⟩))
    go_ret2
    exact ⟨rfl, Ev.refl _⟩)

set_option maxRecDepth 100000 in
set_option maxHeartbeats 1600000 in
theorem ex_appliedCat {A : Option Addr} {n cap : Nat} {l : List Int} (w : World) (h : Ks w A n cap l) (hl : l.length = 2) :
    Calls Try.prog 50 #[.string (bstr bCat), .slice A n cap] w fun e w' => e = .returned (.tuple #[.int .i64 (xApplied bCat l).1, .int .i64 (xApplied bCat l).2]) ∧ Ev w w' := by
  unfold bstr bCat
  have hcm := h.max
  have hle := h.le
  have HA := fun w1 (hE : Ev w w1) => ex_areAll 2 w1 (h.ev hE)
  rw [show xApplied [99, 97, 116] l = if xAll l 2 then (2, 0) else (0, 22) from rfl]
  generalize xAll l 2 = y at *
  have HA := Lib.hid HA
  clear h hl
  cases y <;> (
    go_enter Try.func50, Try.ntmps50
    go_wp2_with (first | ((with_reducible refine (HA.out _ (Ev.refl _)).mono ?_); rintro e w1 ⟨rfl, rfl⟩))
    go_ret2
    exact ⟨rfl, Ev.refl _⟩)

set_option maxRecDepth 100000 in
set_option maxHeartbeats 1600000 in
theorem ex_appliedNeg {A : Option Addr} {n cap : Nat} {l : List Int} (w : World) (h : Ks w A n cap l) (hl : l.length = 1) :
    Calls Try.prog 50 #[.string (bstr bNeg), .slice A n cap] w fun e w' => e = .returned (.tuple #[.int .i64 (xApplied bNeg l).1, .int .i64 (xApplied bNeg l).2]) ∧ Ev w w' := by
  unfold bstr bNeg
  have hcm := h.max
  have hle := h.le
  have HA := fun w1 (hE : Ev w w1) => ex_areAll 1 w1 (h.ev hE)
  rw [show xApplied [110, 101, 103] l = if xAll l 1 then (1, 0) else (0, 22) from rfl]
  generalize xAll l 1 = y at *
  have HA := Lib.hid HA
  clear h hl
  cases y <;> (
    go_enter Try.func50, Try.ntmps50
    go_wp2_with (first | ((with_reducible refine (HA.out _ (Ev.refl _)).mono ?_); rintro e w1 ⟨rfl, rfl⟩))
    go_ret2
    exact ⟨rfl, Ev.refl _⟩)

set_option maxRecDepth 100000 in
set_option maxHeartbeats 1600000 in
theorem ex_appliedNot {A : Option Addr} {n cap : Nat} {l : List Int} (w : World) (h : Ks w A n cap l) (hl : l.length = 1) :
    Calls Try.prog 50 #[.string (bstr bNot), .slice A n cap] w fun e w' => e = .returned (.tuple #[.int .i64 (xApplied bNot l).1, .int .i64 (xApplied bNot l).2]) ∧ Ev w w' := by
  unfold bstr bNot
  have hcm := h.max
  have hle := h.le
  have HA := fun w1 (hE : Ev w w1) => ex_areAll 1 w1 (h.ev hE)
  rw [show xApplied [110, 111, 116] l = if xAll l 1 then (1, 0) else (0, 22) from rfl]
  generalize xAll l 1 = y at *
  have HA := Lib.hid HA
  clear h hl
  cases y <;> (
    go_enter Try.func50, Try.ntmps50
    go_wp2_with (first | ((with_reducible refine (HA.out _ (Ev.refl _)).mono ?_); rintro e w1 ⟨rfl, rfl⟩))
    go_ret2
    exact ⟨rfl, Ev.refl _⟩)

set_option maxRecDepth 100000 in
set_option maxHeartbeats 1600000 in
theorem ex_appliedLen {A : Option Addr} {n cap : Nat} {l : List Int} (w : World) (h : Ks w A n cap l) (hl : l.length = 1) :
    Calls Try.prog 50 #[.string (bstr bLen), .slice A n cap] w fun e w' => e = .returned (.tuple #[.int .i64 (xApplied bLen l).1, .int .i64 (xApplied bLen l).2]) ∧ Ev w w' := by
  unfold bstr bLen
  have hcm := h.max
  have hle := h.le
  have HA := fun w1 (hE : Ev w w1) => ex_areAll 2 w1 (h.ev hE)
  rw [show xApplied [108, 101, 110] l = if xAll l 2 then (1, 0) else (0, 22) from rfl]
  generalize xAll l 2 = y at *
  have HA := Lib.hid HA
  clear h hl
  cases y <;> (
    go_enter Try.func50, Try.ntmps50
    go_wp2_with (first | ((with_reducible refine (HA.out _ (Ev.refl _)).mono ?_); rintro e w1 ⟨rfl, rfl⟩))
    go_ret2
    exact ⟨rfl, Ev.refl _⟩)

set_option maxRecDepth 100000 in
set_option maxHeartbeats 1600000 in
theorem ex_appliedIf {A : Option Addr} {n cap : Nat} {l : List Int} (w : World) (h : Ks w A n cap l) (hl : l.length = 3) :
    Calls Try.prog 50 #[.string (bstr bIf), .slice A n cap] w fun e w' => e = .returned (.tuple #[.int .i64 (xApplied bIf l).1, .int .i64 (xApplied bIf l).2]) ∧ Ev w w' := by
  unfold bstr bIf
  have hn : n = 3 := by rw [← h.len, hl]
  subst hn
  obtain ⟨x0, x1, x2, rfl⟩ : ∃ x0 x1 x2, l = [x0, x1, x2] := by
    exact three_of hl
  obtain ⟨b0, off0, e0, hb0, c0⟩ := h.cell (i := 0) (x := x0) rfl
  obtain ⟨b1, off1, e1, hb1, c1⟩ := h.cell (i := 1) (x := x1) rfl
  obtain ⟨b2, off2, e2, hb2, c2⟩ := h.cell (i := 2) (x := x2) rfl
  rw [e0] at e1
  injection e1 with e1
  injection e1 with e1a e1b _
  subst e1a
  subst e1b
  rw [e0] at e2
  injection e2 with e2
  injection e2 with e2a e2b _
  subst e2a
  subst e2b
  subst e0
  simp only [Nat.add_zero] at c0
  have hcap := h.le
  clear h hl hb0 hb1 hb2
  rw [show xApplied [105, 102] [x0, x1, x2] = if x0 == 1 && x1 == x2 then (x1, 0) else (0, 22) from rfl]
  by_cases h0 : x0 = 1
  · subst h0
    by_cases hx : x1 = x2
    · have g : (x1 == x2) = true := beq_iff_eq.2 hx
      rw [show ((1 : Int) == 1 && x1 == x2) = true by rw [g]; rfl, if_pos rfl]
      clear hx
      go_enter Try.func50, Try.ntmps50
      go_wp2
      go_quiet (fail)
      go_wp2
      go_ret2
      exact ⟨rfl, Ev.drewN _ _⟩
    · have g : (x1 == x2) = false := beq_eq_false_iff_ne.2 hx
      rw [show ((1 : Int) == 1 && x1 == x2) = false by rw [g]; rfl]
      simp only [Bool.false_eq_true, if_false]
      go_enter Try.func50, Try.ntmps50
      go_wp2
      go_quiet (fail)
      go_wp2
      go_ret2
      exact ⟨rfl, Ev.drewN _ _⟩
  · have g : (x0 == 1) = false := beq_eq_false_iff_ne.2 h0
    rw [g]
    simp only [Bool.false_and, Bool.false_eq_true, if_false]
    go_enter Try.func50, Try.ntmps50
    go_wp2
    go_quiet (fail)
    go_wp2
    go_ret2
    exact ⟨rfl, Ev.drewN _ _⟩

theorem ex_applied {A : Option Addr} {n cap : Nat} {l : List Int} (s : By) (w : World) (h : Ks w A n cap l) (hl : l.length = xTakes s) (h0 : xTakes s ≠ 0) :
    Calls Try.prog 50 #[.string (bstr s), .slice A n cap] w fun e w' => e = .returned (.tuple #[.int .i64 (xApplied s l).1, .int .i64 (xApplied s l).2]) ∧ Ev w w' := by
  have hs : (xTwo s || xOne s || s == bIf) = true := by
    cases ht : xTwo s
    · cases ho : xOne s
      · cases hi : s == bIf
        · exfalso
          apply h0
          unfold xTakes
          rw [ht, ho, hi]
          rfl
        · rfl
      · rfl
    · rfl
  unfold xTwo xOne at hs
  simp only [Bool.or_eq_true, beq_iff_eq] at hs
  rcases hs with ((((((((h1 | h1) | h1) | h1) | h1) | h1) | h1) | h1) | ((h1 | h1) | h1)) | h1 <;> subst h1
  · exact ex_appliedAdd w h hl
  · exact ex_appliedSub w h hl
  · exact ex_appliedMul w h hl
  · exact ex_appliedEq w h hl
  · exact ex_appliedLt w h hl
  · exact ex_appliedAnd w h hl
  · exact ex_appliedOr w h hl
  · exact ex_appliedCat w h hl
  · exact ex_appliedNeg w h hl
  · exact ex_appliedNot w h hl
  · exact ex_appliedLen w h hl
  · exact ex_appliedIf w h hl
end Go.Proofs.Ytgiofdmedhhobaa

namespace Go.Proofs.Ytgiofdmedhhobaa
open Go.RowKit
set_option linter.unusedVariables false

theorem Try.infoInt : (Try.prog.info? 3).map (fun i => (i.zero, i.size, i.bytes)) = some (some (.int .i64 0), 1, 8) := by kernel_rfl
theorem xRight_p {m : M} (h : xRight m.t = true) : xForeignP m.kind m.s m.n m.kids.length = false ∧ ∀ x ∈ m.kids, xRight x.t = true := by
  rw [xRight_every, T.every_eq] at h
  simp only [Bool.and_eq_true, Bool.not_eq_true'] at h
  refine ⟨by rw [← xForeign_p]; exact h.1, fun x hx => ?_⟩
  rw [xRight_every]
  exact List.all_eq_true.1 h.2 x.t (by rw [M.t_kids]; exact List.mem_map.2 ⟨x, hx, rfl⟩)
theorem xright_kind {k : Int} {s : By} {n : Int} {n1 : Nat} (h : xForeignP k s n n1 = false) : k = 1 ∨ k = 2 ∨ k = 3 ∨ (k = 4 ∧ n1 = xTakes s ∧ xTakes s ≠ 0) := by
  unfold xForeignP at h
  by_cases h1 : k = 1
  · exact .inl h1
  by_cases h2 : k = 2
  · exact .inr (.inl h2)
  by_cases h3 : k = 3
  · exact .inr (.inr (.inl h3))
  by_cases h4 : k = 4
  · subst h4
    simp at h
    exact .inr (.inr (.inr ⟨rfl, h.2, h.1.1⟩))
  · simp [h1, h2, h3, h4] at h
theorem xKind_eq (cols : List C) (m : M) : xKind cols m.t = if m.kind == 1 then (match findC cols (bstr m.s) with | none => (0, 20) | some i => ((cols.getD i (⟨#[]⟩, 0)).2, 0))
    else if m.kind == 2 then (1, 0) else if m.kind == 3 then (2, 0) else xKindsGo m.s [] (m.kids.map fun x => xKind cols x.t) := by
  rw [M.t_eq, xKind, xKinds_map, List.map_map]
  rfl
theorem findC_lt {l : List C} {s : ByteArray} {i : Nat} (h : findC l s = some i) : i < l.length := by
  unfold findC at h
  exact (List.findIdx?_eq_some_iff_getElem.1 h).1
/-- In the midst of the operands. -/
structure KSt (w0 : World) (v : Value) (ks : List Int) (w : World) : Prop where
  own : Ow 3 1 ic w0.heap.size w v ks
  ev : Ev w0 w

set_option maxRecDepth 100000 in
set_option maxHeartbeats 4000000 in
theorem ex_kind (N : Nat) : ∀ (m : M) (b0 : Nat) (w : World) (A : Option Addr) (n cap : Nat) (cols : List C), m.dep ≤ N → Lx b0 [] w m → Cs w A n cap cols → xRight m.t = true →
    Calls Try.prog 31 #[ev_ m, .slice A n cap] w fun e w' => e = .returned (.tuple #[.int .i64 (xKind cols m.t).1, .int .i64 (xKind cols m.t).2]) ∧ Ev w w' := by
  induction N with
  | zero =>
    intro m b0 w A n cap cols hd
    rw [M.dep_eq] at hd
    omega
  | succ N ih =>
    intro m b0 w A n cap cols hd hL hC hr
    obtain ⟨hf, hkr⟩ := xRight_p hr
    have hke := xKind_eq cols m
    have hE0 := Ev.alloc w (.cells #[.int .i64 m.kind, .string ⟨m.s.toArray⟩, .int .i64 m.n, m.kv] 39)
    have hB := Bx.new 39 #[.int .i64 m.kind, .string ⟨m.s.toArray⟩, .int .i64 m.n, m.kv] w
    obtain ⟨w0, hw0⟩ : ∃ w0, w.alloc (.cells #[.int .i64 m.kind, .string ⟨m.s.toArray⟩, .int .i64 m.n, m.kv] 39) = w0 := ⟨_, rfl⟩
    rw [hw0] at hE0 hB
    have HE := Lib.hid hE0
    have HB := Lib.hid hB
    have HIH := Lib.hid ih
    have HL := Lib.hid hL
    have HC := Lib.hid hC
    have HKR := Lib.hid hkr
    have HD := Lib.hid hd
    have hes := hL.es
    obtain ⟨kn, hkn⟩ : ∃ kn, kn = m.kids.length := ⟨_, rfl⟩
    unfold ev_
    unfold M.kv at *
    rw [← hkn] at hf hw0 HB hes ⊢
    have HKN := Lib.hid hkn
    obtain ⟨⟨c0, c1, c2, c3⟩, _⟩ := HB.out.four
    clear ih hL hC hr hkr hd hkn hE0 hB
    rcases xright_kind hf with hk | hk | hk | ⟨hk, hn1, hn2⟩
    · rw [hk] at hke hw0 c0 ⊢
      simp only [beq_self_eq_true, if_true] at hke
      have HF := fun w1 (hE : Ev w w1) => row_find (bstr m.s) w1 (HC.out.ev hE)
      unfold bstr at HF hke
      cases hfc : findC cols ⟨m.s.toArray⟩ with
      | none =>
        rw [hfc] at hke HF
        have HK := Lib.hid hke
        have HF := Lib.hid HF
        clear hke hfc
        go_enter Try.func31, Try.ntmps31
        go_wp2_with (first | ((with_reducible refine (HF.out _ HE.out).mono ?_); rintro e w1 ⟨rfl, hE1⟩))
        go_ret2
        exact ⟨by rw [HK.out]; rfl, HE.out.trans hE1⟩
      | some i =>
        rw [hfc] at hke HF
        have hil := findC_lt hfc
        rw [HC.out.len] at hil
        obtain ⟨b, off, x, rfl, hb, hx, d0, d1⟩ := HC.out.ccell hil
        have hx2 : cols.getD i (⟨#[]⟩, 0) = x := by simp [List.getD, hx]
        simp only [hx2] at hke
        have HK := Lib.hid hke
        have HF := Lib.hid HF
        have HD1 := Lib.hid (fun w1 (hE : Ev w w1) => (hE.cell (p := ⟨b, off + i * 2 + 1, none⟩) hb).trans d1)
        have i1 : (0 : Int) ≤ (i : Int) := by omega
        have i2 : (i : Int) < (n : Int) := by omega
        clear hke hfc hx hx2 d0 d1
        go_enter Try.func31, Try.ntmps31
        go_wp2_with (first | ((with_reducible refine (HF.out _ HE.out).mono ?_); rintro e w1 ⟨rfl, hE1⟩; simp only [foundAt, Option.isSome_some]; have d1 := HD1.out _ (HE.out.trans hE1)))
        go_ret2
        exact ⟨by rw [HK.out]; rfl, HE.out.trans hE1⟩
    · rw [hk] at hke hw0 c0 ⊢
      have HK : Hid (xKind cols m.t = (1, 0)) := Lib.hid (by rw [hke]; rfl)
      clear hke
      go_enter Try.func31, Try.ntmps31
      go_wp2
      go_ret2
      exact ⟨by rw [HK.out]; rfl, HE.out⟩
    · rw [hk] at hke hw0 c0 ⊢
      have HK : Hid (xKind cols m.t = (2, 0)) := Lib.hid (by rw [hke]; rfl)
      clear hke
      go_enter Try.func31, Try.ntmps31
      go_wp2
      go_ret2
      exact ⟨by rw [HK.out]; rfl, HE.out⟩
    · rw [hk] at hke hw0 c0 ⊢
      obtain ⟨R, hR⟩ : ∃ R, R = xKind cols m.t := ⟨_, rfl⟩
      rw [← hR] at hke ⊢
      have HK : Hid (R = xKindsGo m.s [] ((m.kids.drop 0).map fun x => xKind cols x.t)) := Lib.hid (by rw [hke]; rfl)
      generalize m.A = mA at *
      generalize m.cap = mcap at *
      have HES := Lib.hid hes
      have HN1 := Lib.hid hn1
      have HN2 := Lib.hid hn2
      have hkc := hes.le
      have hkm := hes.max
      have hkb : kn ≤ 3 := by rw [hn1]; unfold xTakes; split <;> (try split) <;> (try split) <;> omega
      have HKK := Lib.hid hk
      have HB1 := HB.out
      rw [hk] at HB1
      have HB1 := Lib.hid HB1
      clear hke hR hn1 hn2 hes hk hf
      go_enter Try.func31, Try.ntmps31
      go_wp2
      go_loopw [8, 38] (fun kv iv wr => ∃ (A1 : Option Addr) (n1 cap1 j : Nat) (ks : List Int), kv = .slice A1 n1 cap1 ∧ iv = .int .i64 (j : Int) ∧ j ≤ kn ∧ Hid (n1 = j ∧ ks.length = j) ∧ Hid (KSt w0 (.slice A1 n1 cap1) ks wr) ∧ Hid (R = xKindsGo m.s ks ((m.kids.drop j).map fun x => xKind cols x.t))) (fun _ iv _ => kn - (intOf iv).toNat)
      case atStart => exact ⟨none, 0, 0, 0, [], rfl, rfl, Nat.zero_le _, Lib.hid ⟨rfl, rfl⟩, Lib.hid ⟨Ow.nil_ _, Ev.refl _⟩, HK⟩
      case round =>
        obtain ⟨A1, n1, cap1, j, ks, rfl, rfl, hj, HN, HS, HR⟩ := hrel
        obtain ⟨⟨c0, c1, c2, c3⟩, _⟩ := (HB1.out.ev HS.out.ev).four
        have HEW := Lib.hid (HE.out.trans HS.out.ev)
        by_cases hlt : j < kn
        · obtain ⟨x, hx⟩ := HES.out.at hlt
          obtain ⟨b, off, rfl, hb, x0, x1, x2, x3⟩ := Es.cell (HES.out.ev HEW.out) hx
          have hxm := List.mem_of_getElem? hx
          have hdj : m.kids.drop j = x :: m.kids.drop (j + 1) := by
            obtain ⟨hj', e⟩ := List.getElem?_eq_some_iff.1 hx
            rw [List.drop_eq_getElem_cons hj', e]
          have HR1 := HR.out
          rw [hdj, List.map_cons] at HR1
          unfold xKindsGo at HR1
          have HI := fun w1 (hE : Ev w w1) => HIH.out x b0 w1 A n cap cols (by have := M.kid_dep hxm; have := HD.out; omega) ((HL.out.kid x hxm).ev hE) (HC.out.ev hE) (HKR.out x hxm)
          generalize xKind cols x.t = rx at *
          obtain ⟨rk, rw_⟩ := rx
          simp only at HI HR1
          unfold ev_ M.kv at HI
          unfold M.kv at x3
          have HI := Lib.hid HI
          have i1 : (0 : Int) ≤ (j : Int) := by omega
          have i2 : (j : Int) < (kn : Int) := by omega
          have HNN := HN
          obtain ⟨hn1, hks⟩ := HN.out
          subst hn1
          have HKS := Lib.hid hks
          clear hx hxm hdj hks HN
          by_cases hw : rw_ = 0
          · subst hw
            simp only [beq_self_eq_true, if_true] at HR1
            have HR2 := Lib.hid HR1
            clear HR1
            go_wp2_with (first
              | ((with_reducible refine (HI.out _ (HEW.out.trans (Ev.alloc wr _))).mono ?_); rintro e w1 ⟨rfl, hE1⟩; have E1 := Lib.hid ((Ev.alloc wr _).trans hE1))
              | ((show wpList _ _ _ (⟨some 54, _, _, _, _, _⟩ :: _) _ _); refine wpList_append_ow (o := ⟨some 54, _, _, _, _, _⟩) rfl 89 (.tmp 51) (.tmp 53) rfl encI Try.underlying89 Try.infoInt rfl rfl (HS.out.own.ev (E1.out.trans (Ev.alloc w1 _))) (some ⟨w1.heap.size, 0, none⟩) 1 1 [rk] rfl (Sl.one encI w1 rk _ rfl) (by rw [HKS.out]; simp; omega) (by rw [HKS.out]; simp; omega) ((HS.out.ev.trans E1.out).trans (Ev.alloc w1 _)).size ?_; intro v2 w2 hA2; have E2 : Ev w0 w2 := ((But.of_ev ((HS.out.ev.trans E1.out).trans (Ev.alloc w1 _))).then hA2.2.1).ev (fun k hk => (HS.out.own.lt (mem_foot.1 hk)).1); obtain ⟨A2, cap2, rfl, _, _⟩ := hA2.1.form encI; generalize hnn : (ks ++ [rk]).length = nn at hA2 ⊢; have HNN2 := Lib.hid hnn.symm; clear hnn))
            go_roundw
            case rel => exact ⟨A2, nn, cap2, n1 + 1, ks ++ [rk], rfl, by go_num, by omega, Lib.hid ⟨by rw [HNN2.out, List.length_append, HKS.out]; rfl, by rw [List.length_append, HKS.out]; rfl⟩, Lib.hid ⟨hA2.1, E2⟩, HR2⟩
            case measure => simp [intOf]; omega
          · have hwb : (rw_ == 0) = false := beq_eq_false_iff_ne.2 hw
            have hwn : (rw_ != 0) = true := by simp [hw]
            rw [hwb] at HR1
            simp only [Bool.false_eq_true, if_false] at HR1
            have HR2 := Lib.hid HR1
            clear HR1
            go_wp2_with (first
              | ((with_reducible refine (HI.out _ (HEW.out.trans (Ev.alloc wr _))).mono ?_); rintro e w1 ⟨rfl, hE1⟩; have E1 := Lib.hid ((Ev.alloc wr _).trans hE1)))
            go_ret2
            exact ⟨by rw [HR2.out]; rfl, HEW.out.trans E1.out⟩
        · have hjk : j = kn := by omega
          have i2 : ¬ ((j : Int) < (kn : Int)) := by omega
          have HR1 := HR.out
          rw [hjk, HKN.out, List.drop_length] at HR1
          simp only [List.map_nil, xKindsGo] at HR1
          obtain ⟨hn1, hks⟩ := HN.out
          obtain ⟨_, capS, hvS, hMS, _⟩ := HS.out.own.form encI
          injection hvS with hv1 hv2 hv3
          subst hv1
          subst hv3
          have hl : ks.length = xTakes m.s := by rw [hks, hjk, HN1.out]
          have HAP := fun w1 (hE : Ev wr w1) => ex_applied m.s w1 (hMS.ev hE) hl HN2.out
          rw [← hv2] at HAP
          unfold bstr at HAP
          rw [← HR1] at HAP
          have HAP := Lib.hid HAP
          clear HR1 hn1 hks hv2 hMS hl hjk HN
          go_wp2_with (first | ((with_reducible refine (HAP.out _ (Ev.refl _)).mono ?_); rintro e w1 ⟨rfl, hE1⟩))
          go_ret2
          exact ⟨rfl, HEW.out.trans hE1⟩
end Go.Proofs.Ytgiofdmedhhobaa

namespace Go.Proofs.Ytgiofdmedhhobaa
open Go.RowKit
set_option linter.unusedVariables false

set_option maxRecDepth 100000 in
set_option maxHeartbeats 800000 in
theorem ex_type (m : M) (b0 : Nat) (w : World) (A : Option Addr) (n cap : Nat) (cols : List C) (hL : Lx b0 [] w m) (hC : Cs w A n cap cols) (hsz : m.t.size ≤ 16000) (hf : m.t.every (fun t => decide (t.s.length ≤ 1000000)) = true) :
    Calls Try.prog 12 #[ev_ m, .slice A n cap] w fun e w' => e = .returned (.tuple #[.int .i64 (xType cols m.t).1, .int .i64 (xType cols m.t).2]) ∧ Ev w w' := by
  have HR := fun w1 (hE : Ev w w1) => ex_isRight m b0 w1 (hL.ev hE) hsz hf
  have HK := fun w1 (hE : Ev w w1) (hr : xRight m.t = true) => ex_kind m.dep m b0 w1 A n cap cols (Nat.le_refl _) (hL.ev hE) (hC.ev hE) hr
  have hE0 := Ev.alloc w (.cells #[.int .i64 m.kind, .string ⟨m.s.toArray⟩, .int .i64 m.n, m.kv] 39)
  have hB := Bx.new 39 #[.int .i64 m.kind, .string ⟨m.s.toArray⟩, .int .i64 m.n, m.kv] w
  obtain ⟨w0, hw0⟩ : ∃ w0, w.alloc (.cells #[.int .i64 m.kind, .string ⟨m.s.toArray⟩, .int .i64 m.n, m.kv] 39) = w0 := ⟨_, rfl⟩
  rw [hw0] at hE0 hB
  have HE := Lib.hid hE0
  have HB := Lib.hid hB
  have HC := Lib.hid hC
  obtain ⟨⟨c0, c1, c2, c3⟩, _⟩ := hB.four
  unfold xType
  generalize xKind cols m.t = rk at *
  obtain ⟨k, y⟩ := rk
  unfold ev_ at *
  unfold M.kv at *
  simp only at HK
  clear hL hC hsz hf hE0 hB
  cases hr : xRight m.t with
  | false =>
    rw [hr] at HR
    have HR := Lib.hid HR
    clear HK hr
    simp only [Bool.false_eq_true, if_false]
    go_enter Try.func12, Try.ntmps12
    go_wp2_with (first | ((with_reducible refine (HR.out _ HE.out).mono ?_); rintro e w1 ⟨rfl, hE1⟩))
    go_ret2
    exact ⟨rfl, HE.out.trans hE1⟩
  | true =>
    rw [hr] at HR
    have HR := Lib.hid HR
    have HK := Lib.hid (fun w1 hE => HK w1 hE hr)
    clear hr
    simp only [if_true]
    go_enter Try.func12, Try.ntmps12
    go_wp2_with (first | ((with_reducible refine (HR.out _ HE.out).mono ?_); rintro e w1 ⟨rfl, hE1⟩; obtain ⟨⟨c0, c1, c2, c3⟩, _⟩ := (HB.out.ev hE1).four) | ((with_reducible refine (HK.out _ (HE.out.trans hE1)).mono ?_); rintro e w2 ⟨rfl, hE2⟩))
    go_ret2
    exact ⟨rfl, (HE.out.trans hE1).trans hE2⟩

/-- Numbers of 64 bits; texts of a size that a machine holds. -/
def fairV (x : V) : Prop := i64R x.2.1 ∧ x.2.2.size ≤ 100000
def fairB (t : T) : Bool := decide (i64R t.n) && decide (t.s.length ≤ 100000)
theorem fair_v0 : fairV v0 := ⟨by decide, by decide⟩
theorem fair_fit (n : Int) : fairV (xFit n).1 := by
  unfold xFit
  split
  · rename_i h; exact ⟨h, (show (0 : Nat) ≤ 100000 by omega)⟩
  · exact fair_v0
theorem fair_truth (b : Bool) : fairV (xTruth b).1 := by cases b <;> exact ⟨by decide, by decide⟩
theorem fair_perform (s : By) {a b : V} (ha : fairV a) (hb : fairV b) : fairV (xPerform s a b).1 := by
  unfold xPerform
  by_cases hAdd : (s == bAdd) = true
  · rw [if_pos hAdd]
    exact fair_fit _
  rw [if_neg hAdd]
  by_cases hSub : (s == bSub) = true
  · rw [if_pos hSub]
    exact fair_fit _
  rw [if_neg hSub]
  by_cases hMul : (s == bMul) = true
  · rw [if_pos hMul]
    exact fair_fit _
  rw [if_neg hMul]
  by_cases hNeg : (s == bNeg) = true
  · rw [if_pos hNeg]
    exact fair_fit _
  rw [if_neg hNeg]
  by_cases hEq : (s == bEq) = true
  · rw [if_pos hEq]
    exact fair_truth _
  rw [if_neg hEq]
  by_cases hLt : (s == bLt) = true
  · rw [if_pos hLt]
    exact fair_truth _
  rw [if_neg hLt]
  by_cases hAnd : (s == bAnd) = true
  · rw [if_pos hAnd]
    exact fair_truth _
  rw [if_neg hAnd]
  by_cases hOr : (s == bOr) = true
  · rw [if_pos hOr]
    exact fair_truth _
  rw [if_neg hOr]
  by_cases hNot : (s == bNot) = true
  · rw [if_pos hNot]
    exact fair_truth _
  rw [if_neg hNot]
  by_cases hCat : (s == bCat) = true
  · rw [if_pos hCat]
    by_cases h : a.2.2.size + b.2.2.size ≤ 40
    · rw [if_pos h]
      exact ⟨(show i64R 0 by decide), (by have := ByteArray.size_append (a := a.2.2) (b := b.2.2); simp only [vStr]; omega)⟩
    · rw [if_neg h]
      exact fair_v0
  rw [if_neg hCat]
  by_cases hLen : (s == bLen) = true
  · rw [if_pos hLen]
    have := ha.2
    exact ⟨by unfold i64R; simp only [vNum]; omega, (show (0 : Nat) ≤ 100000 by omega)⟩
  rw [if_neg hLen]
  exact fair_v0
theorem fair_getD {l : List V} (h : ∀ x ∈ l, fairV x) (i : Nat) : fairV (l.getD i v0) := by
  rw [List.getD_eq_getElem?_getD]
  cases hx : l[i]? with
  | none => exact fair_v0
  | some x => exact h x (List.mem_of_getElem? hx)
theorem fair_go (s : By) : ∀ (l : List VRes) (done : List V), (∀ x ∈ done, fairV x) → (∀ x ∈ l, fairV x.1) → fairV (xEvalsGo s done l).1
  | [], done, hd, _ => fair_perform s (fair_getD hd _) (fair_getD hd _)
  | r :: l, done, hd, hl => by
    unfold xEvalsGo
    split
    · refine fair_go s l _ (fun x hx => ?_) fun x hx => hl x (List.mem_cons_of_mem _ hx)
      rcases List.mem_append.1 hx with h1 | h1
      · exact hd x h1
      · simp at h1
        subst h1
        exact hl r (by simp)
    · exact fair_v0
theorem fair_choose : ∀ (l : List VRes), (∀ x ∈ l, fairV x.1) → fairV (xChoose l).1
  | [], _ => fair_v0
  | [_], _ => fair_v0
  | [_, _], _ => fair_v0
  | a :: b :: c :: _, h => by
    simp only [xChoose]
    split
    · split
      · exact h c (by simp)
      · exact h b (by simp)
    · exact fair_v0
mutual
theorem xEval_fair (cols : List C) (r : List V) (hr : ∀ x ∈ r, fairV x) : ∀ t : T, t.every fairB = true → fairV (xEval cols r t).1
  | .mk k s n l p, h => by
    rw [T.every, Bool.and_eq_true] at h
    obtain ⟨h1, h2⟩ := h
    unfold fairB at h1
    simp only [Bool.and_eq_true, decide_eq_true_iff] at h1
    have h3 := xEvals_fair cols r hr l h2
    rw [xEval]
    split
    · split
      · exact fair_v0
      · exact fair_getD hr _
    · split
      · exact ⟨h1.1, (show (0 : Nat) ≤ 100000 by omega)⟩
      · split
        · exact ⟨(show i64R 0 by decide), h1.2⟩
        · split
          · exact fair_choose _ h3
          · exact fair_go s _ _ (fun x hx => by cases hx) h3
theorem xEvals_fair (cols : List C) (r : List V) (hr : ∀ x ∈ r, fairV x) : ∀ l : List T, T.everys fairB l = true → ∀ x ∈ xEvals cols r l, fairV x.1
  | [], _ => fun x hx => by cases hx
  | t :: l, h => by
    rw [T.everys, Bool.and_eq_true] at h
    intro x hx
    rw [xEvals] at hx
    rcases List.mem_cons.1 hx with rfl | hx
    · exact xEval_fair cols r hr t h.1
    · exact xEvals_fair cols r hr l h.2 x hx
end
theorem xKindsGo_ok (s : By) : ∀ (l : List (Int × Int)) (done : List Int), (xKindsGo s done l).2 = 0 → ∀ r ∈ l, r.2 = 0
  | [], _, _ => fun r hr => by cases hr
  | r :: l, done, h => by
    unfold xKindsGo at h
    intro x hx
    split at h
    · rename_i h0
      rcases List.mem_cons.1 hx with rfl | hx
      · simpa using h0
      · exact xKindsGo_ok s l _ h x hx
    · rename_i h0
      simp only at h
      exact absurd h (by simpa using h0)

/-- An expression's value, as evaluate tells it. -/
def EvAt (A : Option Addr) (n cap : Nat) (cols : List C) (B : Option Addr) (n2 cap2 : Nat) (r : List V) (w : World) (x : M) : Prop :=
  ∀ w1, Ev w w1 → Calls Try.prog 35 #[ev_ x, .slice A n cap, .slice B n2 cap2] w1 (VOut (xEval cols r x.t) w1)

set_option maxRecDepth 100000 in
set_option maxHeartbeats 4000000 in
theorem ex_choose {A B D : Option Addr} {n cap n2 cap2 cap3 : Nat} {cols : List C} {r : List V} (w : World) (a b c : M) (hs : Es w D 3 cap3 [a, b, c]) (ha : EvAt A n cap cols B n2 cap2 r w a) (hb : EvAt A n cap cols B n2 cap2 r w b) (hc : EvAt A n cap cols B n2 cap2 r w c) :
    Calls Try.prog 55 #[.slice D 3 cap3, .slice A n cap, .slice B n2 cap2] w (VOut (xChoose [xEval cols r a.t, xEval cols r b.t, xEval cols r c.t]) w) := by
  obtain ⟨d, off, rfl, hd, a0, a1, a2, a3⟩ := Es.cell hs (i := 0) (x := a) rfl
  obtain ⟨d', off', e', _, b0, b1, b2, b3⟩ := Es.cell hs (i := 1) (x := b) rfl
  injection e' with e'
  injection e' with e1 e2 _
  subst e1
  subst e2
  obtain ⟨d', off', e', _, x0, x1, x2, x3⟩ := Es.cell hs (i := 2) (x := c) rfl
  injection e' with e'
  injection e' with e1 e2 _
  subst e1
  subst e2
  have hcap := hs.le
  simp only [Nat.zero_mul, Nat.add_zero, Nat.one_mul] at a0 a1 a2 a3 b0 b1 b2 b3 x0 x1 x2 x3
  unfold EvAt ev_ M.kv at ha hb hc
  unfold M.kv at a3 b3 x3
  unfold xChoose
  generalize xEval cols r a.t = ra at *
  generalize xEval cols r b.t = rb at *
  generalize xEval cols r c.t = rc at *
  obtain ⟨⟨ka, na, sa⟩, ya⟩ := ra
  have HA := Lib.hid ha
  have HBx := Lib.hid hb
  have HCx := Lib.hid hc
  have hE0 := Ev.alloc w (.cells #[.int .i64 0, .int .i64 0, .string ⟨#[]⟩] 25)
  have hB := vbox w
  obtain ⟨w0, hw0⟩ : ∃ w0, w.alloc (.cells #[.int .i64 0, .int .i64 0, .string ⟨#[]⟩] 25) = w0 := ⟨_, rfl⟩
  rw [hw0] at hE0 hB
  have HE := Lib.hid hE0
  have HB := Lib.hid hB
  have CB : ∀ w1, Ev w w1 → w1.cell? ⟨d, off + 4, none⟩ = some (.int .i64 b.kind) ∧ w1.cell? ⟨d, off + 4 + 1, none⟩ = some (.string ⟨b.s.toArray⟩) ∧ w1.cell? ⟨d, off + 4 + 2, none⟩ = some (.int .i64 b.n) ∧ w1.cell? ⟨d, off + 4 + 3, none⟩ = some (.slice b.A b.kids.length b.cap) := fun w1 hE =>
    ⟨(hE.cell (p := ⟨_, _, none⟩) hd).trans b0, (hE.cell (p := ⟨_, _, none⟩) hd).trans b1, (hE.cell (p := ⟨_, _, none⟩) hd).trans b2, (hE.cell (p := ⟨_, _, none⟩) hd).trans b3⟩
  have CC : ∀ w1, Ev w w1 → w1.cell? ⟨d, off + 8, none⟩ = some (.int .i64 c.kind) ∧ w1.cell? ⟨d, off + 8 + 1, none⟩ = some (.string ⟨c.s.toArray⟩) ∧ w1.cell? ⟨d, off + 8 + 2, none⟩ = some (.int .i64 c.n) ∧ w1.cell? ⟨d, off + 8 + 3, none⟩ = some (.slice c.A c.kids.length c.cap) := fun w1 hE =>
    ⟨(hE.cell (p := ⟨_, _, none⟩) hd).trans x0, (hE.cell (p := ⟨_, _, none⟩) hd).trans x1, (hE.cell (p := ⟨_, _, none⟩) hd).trans x2, (hE.cell (p := ⟨_, _, none⟩) hd).trans x3⟩
  have CA : w0.cell? ⟨d, off, none⟩ = some (.int .i64 a.kind) ∧ w0.cell? ⟨d, off + 1, none⟩ = some (.string ⟨a.s.toArray⟩) ∧ w0.cell? ⟨d, off + 2, none⟩ = some (.int .i64 a.n) ∧ w0.cell? ⟨d, off + 3, none⟩ = some (.slice a.A a.kids.length a.cap) :=
    ⟨(hE0.cell (p := ⟨_, _, none⟩) hd).trans a0, (hE0.cell (p := ⟨_, _, none⟩) hd).trans a1, (hE0.cell (p := ⟨_, _, none⟩) hd).trans a2, (hE0.cell (p := ⟨_, _, none⟩) hd).trans a3⟩
  obtain ⟨p0, p1, p2, p3⟩ := CA
  have HCB := Lib.hid CB
  have HCC := Lib.hid CC
  clear ha hb hc hs hE0 hB CB CC a0 a1 a2 a3 b0 b1 b2 b3 x0 x1 x2 x3
  simp only
  by_cases hy : ya = 0
  · subst hy
    simp only [beq_self_eq_true, if_true]
    by_cases hn : na = 0
    · have hnb : (na == 0) = true := beq_iff_eq.2 hn
      have hnn : (na != 0) = false := by simp [hn]
      rw [hnb]
      simp only [if_true]
      clear hn
      go_enter Try.func55, Try.ntmps55
      go_wp2_with (first
        | ((with_reducible refine (HA.out _ HE.out).mono ?_); rintro e w1 ⟨rfl, hE1⟩; have E1 := Lib.hid (HE.out.trans hE1); have B1 := Lib.hid (HB.out.ev (hE1.trans (Ev.alloc w1 (.cells #[.int .i64 ka, .int .i64 na, .string sa] 25)))); obtain ⟨⟨c0, c1, c2⟩, f0, f1, f2⟩ := B1.out.three; obtain ⟨b0, b1, b2, b3⟩ := HCB.out _ (E1.out.trans (Ev.alloc w1 (.cells #[.int .i64 ka, .int .i64 na, .string sa] 25))); obtain ⟨x0, x1, x2, x3⟩ := HCC.out _ (E1.out.trans (Ev.alloc w1 (.cells #[.int .i64 ka, .int .i64 na, .string sa] 25))))
        | ((with_reducible refine (HCx.out _ (E1.out.trans (Ev.alloc w1 _))).mono ?_); rintro e w2 ⟨rfl, hE2⟩; have B2 := B1.out.ev hE2; have E2 := (E1.out.trans (Ev.alloc w1 _)).trans hE2; clear c0 c1 c2 f0 f1 f2; obtain ⟨⟨c0, c1, c2⟩, f0, f1, f2⟩ := B2.three))
      (try simp only [Exit.inBlock, Exit.then])
      rw [set3_fold]
      refine bodyPost_ret (results_cellt rfl _ _ _ _ _ rfl (B2.set3 _ _ _) Try.underlying25 rfl Try.sizeVal) rfl ?_
      exact ⟨rfl, E2.box (set3_but _ _ _ _ _) (Nat.le_refl _)⟩
    · have hnb : (na == 0) = false := beq_eq_false_iff_ne.2 hn
      have hnn : (na != 0) = true := by simp [hn]
      rw [hnb]
      simp only [Bool.false_eq_true, if_false]
      go_enter Try.func55, Try.ntmps55
      go_wp2_with (first
        | ((with_reducible refine (HA.out _ HE.out).mono ?_); rintro e w1 ⟨rfl, hE1⟩; have E1 := Lib.hid (HE.out.trans hE1); have B1 := Lib.hid (HB.out.ev (hE1.trans (Ev.alloc w1 (.cells #[.int .i64 ka, .int .i64 na, .string sa] 25)))); obtain ⟨⟨c0, c1, c2⟩, f0, f1, f2⟩ := B1.out.three; obtain ⟨b0, b1, b2, b3⟩ := HCB.out _ (E1.out.trans (Ev.alloc w1 (.cells #[.int .i64 ka, .int .i64 na, .string sa] 25))); obtain ⟨x0, x1, x2, x3⟩ := HCC.out _ (E1.out.trans (Ev.alloc w1 (.cells #[.int .i64 ka, .int .i64 na, .string sa] 25))))
        | ((with_reducible refine (HBx.out _ (E1.out.trans (Ev.alloc w1 _))).mono ?_); rintro e w2 ⟨rfl, hE2⟩; have B2 := B1.out.ev hE2; have E2 := (E1.out.trans (Ev.alloc w1 _)).trans hE2; clear c0 c1 c2 f0 f1 f2; obtain ⟨⟨c0, c1, c2⟩, f0, f1, f2⟩ := B2.three))
      (try simp only [Exit.inBlock, Exit.then])
      rw [set3_fold]
      refine bodyPost_ret (results_cellt rfl _ _ _ _ _ rfl (B2.set3 _ _ _) Try.underlying25 rfl Try.sizeVal) rfl ?_
      exact ⟨rfl, E2.box (set3_but _ _ _ _ _) (Nat.le_refl _)⟩
  · have hyb : (ya == 0) = false := beq_eq_false_iff_ne.2 hy
    have hyn : (ya != 0) = true := by simp [hy]
    rw [hyb]
    simp only [Bool.false_eq_true, if_false]
    go_enter Try.func55, Try.ntmps55
    go_wp2_with (first
      | ((with_reducible refine (HA.out _ HE.out).mono ?_); rintro e w1 ⟨rfl, hE1⟩; have E1 := Lib.hid (HE.out.trans hE1); have B1 := Lib.hid (HB.out.ev (hE1.trans (Ev.alloc w1 (.cells #[.int .i64 ka, .int .i64 na, .string sa] 25)))); obtain ⟨⟨c0, c1, c2⟩, f0, f1, f2⟩ := B1.out.three; obtain ⟨b0, b1, b2, b3⟩ := HCB.out _ (E1.out.trans (Ev.alloc w1 (.cells #[.int .i64 ka, .int .i64 na, .string sa] 25))); obtain ⟨x0, x1, x2, x3⟩ := HCC.out _ (E1.out.trans (Ev.alloc w1 (.cells #[.int .i64 ka, .int .i64 na, .string sa] 25)))))
    (try simp only [Exit.inBlock, Exit.then])
    rw [set3_fold]
    refine bodyPost_ret (results_cellt rfl _ _ _ _ _ rfl (B1.out.set3 _ _ _) Try.underlying25 rfl Try.sizeVal) rfl ?_
    exact ⟨rfl, (E1.out.trans (Ev.alloc w1 _)).box (set3_but _ _ _ _ _) (Nat.le_refl _)⟩
end Go.Proofs.Ytgiofdmedhhobaa
