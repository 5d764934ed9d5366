/-
  Texts that belong together: Package sexp: hasEnd of a tree that has few parts.
-/
import Derived.Deep.LoopGhost
import Derived.Test.YtojbahjebfcmgaaGreatDoorZ16W
import Derived.Test.YtojbahjebfcmgaaGreatDoorZ15W
namespace Go.Proofs.YtojbahjebfcmgaaGreatDoor
open Go.RowKit
set_option linter.unusedVariables false

theorem tsize_eq (t : T) : t.size = (t.kids.map T.size).sum + 1 := by
  cases t
  rw [T.size, T.sizes_sum]
  rfl
theorem tsize_pos (t : T) : 1 ≤ t.size := by rw [tsize_eq]; omega
theorem tsum_len : ∀ l : List T, l.length ≤ (l.map T.size).sum
  | [] => by simp
  | t :: l => by
    have := tsum_len l
    have := tsize_pos t
    simp
    omega
/-- What is left to look at, p parts having been counted. -/
structure HeSt (m : M) (b0 : Nat) (w0 : World) (v : Value) (L : List M) (p : Nat) (w : World) : Prop where
  own : Ow 67 5 mc w0.heap.size w v L
  ev : Ev w0 w
  lies : ∀ x ∈ L, Lies b0 [] w0 x
  sum : p + (L.map fun x => x.t.size).sum ≤ m.t.size + L.length
  few : L.length ≤ p
theorem sum_len2 : ∀ L : List M, L.length ≤ (L.map fun x => x.t.size).sum
  | [] => by simp
  | x :: L => by
    have := sum_len2 L
    have := tsize_pos x.t
    simp
    omega
theorem HeSt.drop {m x : M} {b0 p : Nat} {w0 w w' : World} {A : Option Addr} {n cap : Nat} {L : List M} (h : HeSt m b0 w0 (.slice A (n + 1) cap) (L ++ [x]) p w) (hn : L.length = n) (hE : Ev w w') : HeSt m b0 w0 (.slice A n cap) L p w' := by
  have h1 := h.own.to encM rfl n (by simp; omega)
  rw [List.take_left' hn] at h1
  have h2 := h.sum
  have h3 := tsize_pos x.t
  simp only [List.map_append, List.sum_append, List.map_cons, List.map_nil, List.sum_cons, List.sum_nil, List.length_append, List.length_cons, List.length_nil] at h2
  have h4 := h.few
  rw [List.length_append] at h4
  exact ⟨h1.ev hE, h.ev.trans hE, fun y hy => h.lies y (List.mem_append_left _ hy), by omega, by omega⟩
theorem HeSt.more {m x : M} {b0 p : Nat} {w0 w w' w2 : World} {A : Option Addr} {n cap : Nat} {v2 : Value} {L : List M} (h : HeSt m b0 w0 (.slice A (n + 1) cap) (L ++ [x]) p w) (hE : Ev w w') (ho : Ow 67 5 mc w0.heap.size w2 v2 (L ++ x.kids)) (hE2 : Ev w0 w2) : HeSt m b0 w0 v2 (L ++ x.kids) (p + x.kids.length) w2 := by
  have h2 := h.sum
  have h3 := tsize_eq x.t
  rw [M.t_kids, List.map_map] at h3
  have : (T.size ∘ M.t) = (fun x : M => x.t.size) := rfl
  rw [this] at h3
  simp only [List.map_append, List.sum_append, List.map_cons, List.map_nil, List.sum_cons, List.sum_nil, List.length_append, List.length_cons, List.length_nil] at h2
  have h4 := h.few
  rw [List.length_append] at h4
  refine ⟨ho, hE2, fun y hy => ?_, ?_, by rw [List.length_append]; omega⟩
  · rcases List.mem_append.1 hy with h1 | h1
    · exact h.lies y (List.mem_append_left _ h1)
    · exact (h.lies x (by simp)).kid y h1
  · simp only [List.map_append, List.sum_append, List.length_append]
    omega
theorem last_of {L : List M} {n : Nat} (h : L.length = n + 1) : ∃ L' x, L = L' ++ [x] ∧ L'.length = n := by
  cases hL : L.getLast? with
  | none => rw [List.getLast?_eq_none_iff] at hL; subst hL; simp at h
  | some x =>
    rw [List.getLast?_eq_some_iff] at hL
    obtain ⟨L', rfl⟩ := hL
    exact ⟨L', x, rfl, by simpa using h⟩

set_option maxRecDepth 100000 in
set_option maxHeartbeats 4000000 in
theorem sx_hasEnd (m : M) (b0 : Nat) (w : World) (h : Lies b0 [] w m) (hsz : m.t.size ≤ 100000) :
    Calls Tryz.prog 106 #[.agg #[.int .i64 m.kind, .string ⟨m.s.toArray⟩, .int .i64 m.n, .slice m.A m.kids.length m.cap, .int .i64 (m.pos : Int)]] w fun e w' => e = .returned (.bool true) ∧ Ev w w' := by
  have hE0 := (Ev.alloc w (.cells #[.int .i64 m.kind, .string ⟨m.s.toArray⟩, .int .i64 m.n, .slice m.A m.kids.length m.cap, .int .i64 (m.pos : Int)] 67)).trans (Ev.alloc _ (.cells #[.int .i64 m.kind, .string ⟨m.s.toArray⟩, .int .i64 m.n, .slice m.A m.kids.length m.cap, .int .i64 (m.pos : Int)] 67))
  have hP : HeSt m b0 w (.slice (some ⟨w.heap.size + 1, 0, none⟩) 1 1) [m] 1 ((w.alloc (.cells #[.int .i64 m.kind, .string ⟨m.s.toArray⟩, .int .i64 m.n, .slice m.A m.kids.length m.cap, .int .i64 (m.pos : Int)] 67)).alloc (.cells #[.int .i64 m.kind, .string ⟨m.s.toArray⟩, .int .i64 m.n, .slice m.A m.kids.length m.cap, .int .i64 (m.pos : Int)] 67)) := by
    refine ⟨?_, hE0, fun x hx => by simp at hx; subst hx; exact h, by simp; omega, by simp⟩
    have := Ow.made (et := 67) (base := w.heap.size) encM (w.alloc (.cells #[.int .i64 m.kind, .string ⟨m.s.toArray⟩, .int .i64 m.n, .slice m.A m.kids.length m.cap, .int .i64 (m.pos : Int)] 67)) [m] #[.int .i64 m.kind, .string ⟨m.s.toArray⟩, .int .i64 m.n, .slice m.A m.kids.length m.cap, .int .i64 (m.pos : Int)] rfl (by simp) (by simp)
    simpa using this
  have HP := Lib.hid hP
  have HSZ := Lib.hid hsz
  clear hP hE0 hsz
  go_enter Tryz.func106, Tryz.ntmps106
  go_wp2
  go_loopg [3, 4] m.t.size (fun g lv pv wr => ∃ (A : Option Addr) (n cap p : Nat) (L : List M), lv = .slice A n cap ∧ pv = .int .i64 (p : Int) ∧ Hid (HeSt m b0 w (.slice A n cap) L p wr) ∧ Hid (g = (L.map fun x => x.t.size).sum) ∧ Hid (L.length = n))
  case atStart => exact ⟨_, 1, 1, 1, [m], rfl, rfl, HP, Lib.hid (by simp), Lib.hid rfl⟩
  case round =>
    obtain ⟨A, n, cap, p, L, rfl, rfl, HS, HG, HN⟩ := hrel
    cases n with
    | zero =>
      go_wp2
      go_ret
      exact ⟨rfl, HS.out.ev⟩
    | succ n =>
      obtain ⟨L, x, rfl, hl⟩ := last_of HN.out
      have HLL := Lib.hid hl
      obtain ⟨A', cap', hvv, hSl, hA⟩ := HS.out.own.form encM
      rw [HN.out] at hvv hSl
      injection hvv with h1 h2 h3
      subst h1
      subst h3
      have hnc := hSl.le
      have hcm := hSl.max
      have hx : (L ++ [x])[n]? = some x := by rw [← HLL.out]; simp
      obtain ⟨b, off, rfl, hb, c0, c1, c2, c3, c4⟩ := Ms.cell hSl hx
      unfold M.kv at c3
      have hLx := HS.out.lies x (by simp)
      have hsum := HS.out.sum
      have hls := sum_len2 L
      have hfew := HS.out.few
      rw [List.length_append, List.length_singleton] at hfew
      have hkz : x.kids.length + 1 ≤ x.t.size := by
        have h5 := tsize_eq x.t
        have h6 := tsum_len x.t.kids
        rw [M.t_kids] at h5 h6
        rw [List.length_map] at h6
        omega
      have hgk : gk = (L.map fun x => x.t.size).sum + x.t.size := by rw [HG.out]; simp
      simp only [List.map_append, List.sum_append, List.map_cons, List.map_nil, List.sum_cons, List.sum_nil, List.length_append, List.length_cons, List.length_nil] at hsum
      have hsz := HSZ.out
      have hpk : p + x.kids.length ≤ 131072 := by omega
      have hn2 : n ≤ 200000 := by omega
      have HGK := Lib.hid hgk
      have HKZ := Lib.hid hkz
      have hkc := hLx.ms.le
      have hkm := hLx.ms.max
      have HLX := Lib.hid hLx
      have HAL := Lib.hid (Ev.alloc wr (.cells #[.int .i64 x.kind, .string ⟨x.s.toArray⟩, .int .i64 x.n, .slice x.A x.kids.length x.cap, .int .i64 (x.pos : Int)] 67))
      have HDR := Lib.hid (HS.out.drop hl HAL.out)
      have i1 : (0 : Int) ≤ (n : Int) := by omega
      have i2 : (n : Int) ≤ (cap : Int) := by omega
      have hpk2 : (p : Int) + (x.kids.length : Int) ≤ 131072 := by omega
      have i3 : ¬ ((131072 : Int) < (p : Int) + (x.kids.length : Int)) := by omega
      have i4 : decide ((131072 : Int) < (p : Int) + (x.kids.length : Int)) = false := decide_eq_false i3
      clear hx hA hSl hb hl hsum hls hfew hkz hgk hsz hLx h2
      by_cases hk : x.kind = 1
      · have hkb : (x.kind == 1) = true := beq_iff_eq.2 hk
        have hkn : (x.kind != 1) = false := by simp [hk]
        clear hk
        obtain ⟨kn, hkn2⟩ : ∃ kn, kn = x.kids.length := ⟨_, rfl⟩
        rw [← hkn2] at c3 hkc hpk hpk2 i3 i4 HAL
        have HKN := Lib.hid hkn2
        clear hkn2
        go_wp2_with (first
          | ((show wpList _ _ _ (⟨some 35, _, _, _, _, _⟩ :: _) _ _); refine wpList_append_ow (o := ⟨some 35, _, _, _, _, _⟩) rfl 65 (.tmp 32) (.tmp 34) rfl encM Tryz.underlying65 Tryz.infoTree rfl rfl (by have := HDR.out.own; rw [← HKN.out] at this; exact this) x.A kn x.cap x.kids rfl (by have := HLX.out.ms.ev (HS.out.ev.trans HAL.out); rw [← HKN.out] at this; exact this) (by rw [← HKN.out, HLL.out]; omega) (by rw [← HKN.out, HLL.out]; omega) (HS.out.ev.trans HAL.out).size ?_; intro v2 w2 hA2; have E2 := ((But.of_ev (HS.out.ev.trans HAL.out)).then hA2.2.1).ev (fun k hk => (HDR.out.own.lt (mem_foot.1 hk)).1); have S2 := HS.out.more HAL.out hA2.1 E2; obtain ⟨A2, cap2, rfl, _, _⟩ := hA2.1.form encM; generalize hnn : (L ++ x.kids).length = nn at S2 ⊢; have HNN2 := Lib.hid hnn; clear hnn))
        go_roundg (((L ++ x.kids).map fun x => x.t.size).sum)
        case measure =>
          rw [HGK.out]
          have h5 := tsize_eq x.t
          rw [M.t_kids, List.map_map] at h5
          have : (T.size ∘ M.t) = (fun x : M => x.t.size) := rfl
          rw [this] at h5
          simp only [List.map_append, List.sum_append]
          omega
        case rel => exact ⟨A2, nn, cap2, p + kn, L ++ x.kids, rfl, by go_num, Lib.hid (by rw [HKN.out]; exact S2), Lib.hid rfl, HNN2⟩
      · have hkb : (x.kind == 1) = false := beq_eq_false_iff_ne.2 hk
        have hkn : (x.kind != 1) = true := by simp [hk]
        clear hk
        go_wp2
        go_roundg ((L.map fun x => x.t.size).sum)
        case measure => rw [HGK.out]; have := tsize_pos x.t; omega
        case rel => exact ⟨_, n, cap, p, L, rfl, rfl, HDR, Lib.hid rfl, HLL⟩
end Go.Proofs.YtojbahjebfcmgaaGreatDoor
