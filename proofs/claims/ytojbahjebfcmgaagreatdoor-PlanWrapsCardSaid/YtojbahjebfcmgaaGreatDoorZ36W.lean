/-
  Texts that belong together: Package plan: the plans of which a plan consists; Size. The document (chapter 9): two plans that are the same are told to be so. Package plan: isSmall, Print. Package plan: Tables: the names of the tables of a plan: sorted, each once. Chapter 9's known runs; contracts of plans as the laws call them.
-/
import Derived.Test.YtojbahjebfcmgaaGreatDoorZ35W
import Derived.Test.YtojbahjebfcmgaaGreatDoorZ16W
import Derived.Test.YtojbahjebfcmgaaGreatDoorZ20W
import Derived.BigQuiet
namespace Go.Proofs.YtojbahjebfcmgaaGreatDoor
open Go.RowKit
set_option linter.unusedVariables false

/-- A pointer, and the plan that lies there. -/
abbrev Pp := Addr × PM
def ppc (x : Pp) : List Value := [.pointer (some x.1)]
theorem encPp : Enc 1 ppc := ⟨by omega, fun _ => rfl, fun x u hu => by
  simp [ppc] at hu
  subst hu; rfl⟩
theorem Tryz.infoPp : (Tryz.prog.info? 77).map (fun i => (i.zero, i.size, i.bytes)) = some (some (.pointer none), 1, 8) := by kernel_rfl
theorem Tryz.underlying_pps : Tryz.prog.underlying 74 = some (.slice 77) := by kernel_rfl
/-- A plan's cells, from an address on. -/
def EightAt (w : World) (b off : Nat) (m : PM) : Prop :=
  w.cell? ⟨b, off, none⟩ = some (.int .i64 m.kind) ∧ w.cell? ⟨b, off + 1, none⟩ = some (.string ⟨m.name.toArray⟩) ∧ w.cell? ⟨b, off + 2, none⟩ = some (.slice m.ex.A m.ex.l.length m.ex.cap) ∧ w.cell? ⟨b, off + 3, none⟩ = some (.slice m.co.A m.co.l.length m.co.cap) ∧ w.cell? ⟨b, off + 4, none⟩ = some (.slice m.lf.A m.lf.l.length m.lf.cap) ∧ w.cell? ⟨b, off + 5, none⟩ = some (.slice m.rt.A m.rt.l.length m.rt.cap) ∧ w.cell? ⟨b, off + 6, none⟩ = some (.slice m.ag.A m.ag.l.length m.ag.cap) ∧ w.cell? ⟨b, off + 7, none⟩ = some (.slice m.A m.kids.length m.cap)
def PpAt (w : World) (x : Pp) : Prop := ∃ b off, x.1 = ⟨b, off, none⟩ ∧ b < w.heap.size ∧ EightAt w b off x.2
theorem PpAt.ev {w w' : World} {x : Pp} (h : PpAt w x) (hE : Ev w w') : PpAt w' x := by
  obtain ⟨b, off, e, hb, h0, h1, h2, h3, h4, h5, h6, h7⟩ := h
  exact ⟨b, off, e, Nat.lt_of_lt_of_le hb hE.size, (hE.cell (p := ⟨b, _, none⟩) hb).trans h0, (hE.cell (p := ⟨b, _, none⟩) hb).trans h1, (hE.cell (p := ⟨b, _, none⟩) hb).trans h2, (hE.cell (p := ⟨b, _, none⟩) hb).trans h3, (hE.cell (p := ⟨b, _, none⟩) hb).trans h4, (hE.cell (p := ⟨b, _, none⟩) hb).trans h5, (hE.cell (p := ⟨b, _, none⟩) hb).trans h6, (hE.cell (p := ⟨b, _, none⟩) hb).trans h7⟩
/-- Where the kids of a plan lie. -/
def kAddr (A : Option Addr) (i : Nat) : Addr :=
  match A with
  | none => ⟨0, 0, none⟩
  | some ⟨b, off, _⟩ => ⟨b, off + i * 8, none⟩
def kidsAt (x : PM) : List Pp := x.kids.mapIdx fun i m => (kAddr x.A i, m)
theorem kidsAt_len (x : PM) : (kidsAt x).length = x.kids.length := by simp [kidsAt]
theorem kidsAt_snd (x : PM) : (kidsAt x).map (·.2) = x.kids := by
  unfold kidsAt
  refine List.ext_getElem? fun i => ?_
  rw [List.getElem?_map, List.getElem?_mapIdx]
  cases x.kids[i]? <;> rfl
theorem kidsAt_get (x : PM) {i : Nat} {y : PM} (h : x.kids[i]? = some y) : (kidsAt x)[i]? = some (kAddr x.A i, y) := by
  unfold kidsAt
  rw [List.getElem?_mapIdx, h]
  rfl
theorem kidsAt_lie {b0 : Nat} {w : World} {x : PM} (h : Qx b0 [] w x) : ∀ y ∈ kidsAt x, Qx b0 [] w y.2 ∧ PpAt w y := by
  intro y hy
  obtain ⟨i, hi⟩ := List.getElem?_of_mem hy
  unfold kidsAt at hi
  rw [List.getElem?_mapIdx] at hi
  cases hk : x.kids[i]? with
  | none => rw [hk] at hi; cases hi
  | some m =>
    rw [hk] at hi
    obtain rfl := Option.some.inj hi
    have hil := (List.getElem?_eq_some_iff.1 hk).1
    refine ⟨h.kid m (List.mem_of_getElem? hk), ?_⟩
    obtain ⟨b, off, e, hb, _⟩ := h.ps.rd (by omega)
    have hps := h.ps
    rw [e] at hps
    have hc := Ps.cell hps hk
    unfold Sle.v PM.kv at hc
    refine ⟨b, off + i * 8, ?_, hb, hc⟩
    show kAddr x.A i = _
    rw [e]
    try rfl
def sumL (f : Pl → Nat) (L : List Pp) : Nat := (L.map fun x => f x.2.p).sum
theorem sumL_append (f : Pl → Nat) (L K : List Pp) : sumL f (L ++ K) = sumL f L + sumL f K := by simp [sumL]
theorem sumL_kids (f : Pl → Nat) (x : PM) : sumL f (kidsAt x) = (x.p.kids.map f).sum := by
  have : sumL f (kidsAt x) = (((kidsAt x).map (·.2)).map fun y => f y.p).sum := by simp [sumL, Function.comp_def]
  rw [this, kidsAt_snd]
  have hk : x.p.kids = x.kids.map PM.p := by rw [PM.p_eq]; rfl
  rw [hk, List.map_map]
  rfl
theorem sumL_ones (L : List Pp) : sumL (fun _ => 1) L = L.length := by
  unfold sumL
  induction L with
  | nil => rfl
  | cons a L ih =>
    rw [List.map_cons, List.sum_cons, ih, List.length_cons]
    show 1 + L.length = L.length + 1
    omega
theorem sumL_size (L : List Pp) : L.length ≤ sumL Pl.size L := by
  rw [← sumL_ones]
  unfold sumL
  exact sum_le_sum L fun x _ => Pl.size_pos _
theorem p_kids (x : PM) : x.p.kids.length = x.kids.length := by rw [PM.p_eq]; simp [Pl.kids]
/-- How far the plans are gathered: i of them have been looked at. -/
structure WiSt (m : PM) (b0 : Nat) (w1 : World) (v : Value) (L : List Pp) (i : Nat) (w : World) : Prop where
  own : Ow 77 1 ppc w1.heap.size w v L
  ev : Ev w1 w
  lies : ∀ x ∈ L, Qx b0 [] w1 x.2 ∧ PpAt w1 x
  le : i ≤ L.length
  sum : ∀ f : Pl → Nat, sumL f (L.take i) + sumL (Pl.sum f) (L.drop i) = m.p.sum f
theorem drop_at {α : Type} {L : List α} {i : Nat} {x : α} (hx : L[i]? = some x) : L.drop i = x :: L.drop (i + 1) ∧ L.take (i + 1) = L.take i ++ [x] := by
  obtain ⟨hi, e⟩ := List.getElem?_eq_some_iff.1 hx
  exact ⟨by rw [List.drop_eq_getElem_cons hi, e], by rw [List.take_succ_eq_append_getElem hi, e]⟩
theorem sum_one (p : Pl) : p.sum (fun _ => 1) = p.size := size_sum p
theorem WiSt.size {m : PM} {b0 : Nat} {w1 w : World} {v : Value} {L : List Pp} {i : Nat} (h : WiSt m b0 w1 v L i w) : i + sumL Pl.size (L.drop i) = m.p.size := by
  have h1 := h.sum fun _ => 1
  rw [sumL_ones, List.length_take, sum_one, Nat.min_eq_left h.le] at h1
  have : (Pl.sum fun _ => 1) = Pl.size := funext sum_one
  rwa [this] at h1
theorem WiSt.short {m : PM} {b0 : Nat} {w1 w : World} {v : Value} {L : List Pp} {i : Nat} (h : WiSt m b0 w1 v L i w) : L.length ≤ m.p.size := by
  have h1 := h.size
  have h2 := sumL_size (L.drop i)
  rw [List.length_drop] at h2
  have := h.le
  omega
theorem WiSt.room {m : PM} {b0 : Nat} {w1 w : World} {v : Value} {L : List Pp} {i : Nat} {x : Pp} (h : WiSt m b0 w1 v L i w) (hx : L[i]? = some x) : L.length + x.2.kids.length ≤ m.p.size := by
  have h1 := h.size
  rw [(drop_at hx).1] at h1
  have h2 := sumL_size (L.drop (i + 1))
  rw [List.length_drop] at h2
  have h3 : sumL Pl.size (x :: L.drop (i + 1)) = x.2.p.size + sumL Pl.size (L.drop (i + 1)) := by simp [sumL]
  have h4 := Pl.size_eq x.2.p
  have h5 := sum_le_sum (f := fun _ => 1) (g := Pl.size) x.2.p.kids fun y _ => Pl.size_pos y
  have h6 : (x.2.p.kids.map fun _ => 1).sum = x.2.p.kids.length := by
    generalize x.2.p.kids = l
    induction l with
    | nil => rfl
    | cons a l ih =>
      rw [List.map_cons, List.sum_cons, ih, List.length_cons]
      omega
  rw [p_kids] at h6
  have := (List.getElem?_eq_some_iff.1 hx).1
  omega
theorem WiSt.next {m : PM} {b0 : Nat} {w1 w w' : World} {v v' : Value} {L : List Pp} {i : Nat} {x : Pp} (h : WiSt m b0 w1 v L i w) (hx : L[i]? = some x) (ho : Ow 77 1 ppc w1.heap.size w' v' (L ++ kidsAt x.2)) (hE : Ev w1 w') : WiSt m b0 w1 v' (L ++ kidsAt x.2) (i + 1) w' := by
  have hi := (List.getElem?_eq_some_iff.1 hx).1
  have hi1 : i + 1 ≤ L.length := hi
  obtain ⟨hd, ht⟩ := drop_at hx
  refine ⟨ho, hE, fun y hy => ?_, by rw [List.length_append]; omega, fun f => ?_⟩
  · rcases List.mem_append.1 hy with h1 | h1
    · exact h.lies y h1
    · exact kidsAt_lie (h.lies x (List.mem_of_getElem? hx)).1 y h1
  · have h1 := h.sum f
    rw [hd] at h1
    rw [List.take_append_of_le_length hi1, List.drop_append_of_le_length hi1, ht, sumL_append, sumL_append, sumL_kids]
    have h2 : sumL (Pl.sum f) (x :: L.drop (i + 1)) = x.2.p.sum f + sumL (Pl.sum f) (L.drop (i + 1)) := by simp [sumL]
    have h3 : sumL f [x] = f x.2.p := by simp [sumL]
    have h4 := Pl.sum_eq f x.2.p
    omega
theorem WiSt.init {m : PM} {b0 : Nat} {w w1 w2 : World} {v : Value} {a : Addr} (hL : Qx b0 [] w m) (hE : Ev w w1) (hp : PpAt w1 (a, m)) (ho : Ow 77 1 ppc w1.heap.size w2 v [(a, m)]) (hE2 : Ev w1 w2) : WiSt m b0 w1 v [(a, m)] 0 w2 :=
  ⟨ho, hE2, fun x hx => by simp at hx; subst hx; exact ⟨hL.ev hE, hp⟩, by simp, fun f => by simp [sumL]⟩
/-- What comes back: all of them, or none. -/
def WiOut (m : PM) (most : Nat) (w : World) (e : Ending) (w' : World) : Prop :=
  (∃ (A : Option Addr) (n cap : Nat) (L : List Pp) (b0 : Nat), e = .returned (.tuple #[.slice A n cap, .bool true]) ∧ Sl 1 ppc w' A n cap L ∧ (∀ x ∈ L, PpAt w' x) ∧ (∀ f : Pl → Nat, sumL f L = m.p.sum f) ∧ m.p.size ≤ most ∧ Ev w w') ∨
  (e = .returned (.tuple #[.slice none 0 0, .bool false]) ∧ most < m.p.size ∧ Ev w w')
theorem pp_cell {w : World} {b off n cap : Nat} {L : List Pp} (h : Sl 1 ppc w (some ⟨b, off, none⟩) n cap L) {i : Nat} {x : Pp} (hx : L[i]? = some x) : w.cell? ⟨b, off + i, none⟩ = some (.pointer (some x.1)) := by
  have hi := (List.getElem?_eq_some_iff.1 hx).1
  have hl := h.len
  obtain ⟨b', off', e, hlt, hc⟩ := h.rd (by omega)
  injection e with e
  injection e with e1 e2 _
  subst e1; subst e2
  have := hc i x hx 0 _ rfl
  rwa [Nat.mul_one, Nat.add_zero] at this

set_option maxRecDepth 100000 in
set_option maxHeartbeats 8000000 in
theorem pl_within (m : PM) (b0 most : Nat) (w : World) (h : Qx b0 [] w m) (hsz : m.p.size ≤ 1000000) (h1 : 1 ≤ most) (hm : most ≤ 1000000) :
    Calls Tryz.prog 32 #[pv m, .int .i64 (most : Int)] w (WiOut m most w) := by
  have hB := Bx.new 27 #[.int .i64 m.kind, .string ⟨m.name.toArray⟩, .slice m.ex.A m.ex.l.length m.ex.cap, .slice m.co.A m.co.l.length m.co.cap, .slice m.lf.A m.lf.l.length m.lf.cap, .slice m.rt.A m.rt.l.length m.rt.cap, .slice m.ag.A m.ag.l.length m.ag.cap, .slice m.A m.kids.length m.cap] w
  have hE0 := Ev.alloc w (.cells #[.int .i64 m.kind, .string ⟨m.name.toArray⟩, .slice m.ex.A m.ex.l.length m.ex.cap, .slice m.co.A m.co.l.length m.co.cap, .slice m.lf.A m.lf.l.length m.lf.cap, .slice m.rt.A m.rt.l.length m.rt.cap, .slice m.ag.A m.ag.l.length m.ag.cap, .slice m.A m.kids.length m.cap] 27)
  unfold pv Sle.v PM.kv
  obtain ⟨w1, hw1⟩ : ∃ w1, w.alloc (.cells #[.int .i64 m.kind, .string ⟨m.name.toArray⟩, .slice m.ex.A m.ex.l.length m.ex.cap, .slice m.co.A m.co.l.length m.co.cap, .slice m.lf.A m.lf.l.length m.lf.cap, .slice m.rt.A m.rt.l.length m.rt.cap, .slice m.ag.A m.ag.l.length m.ag.cap, .slice m.A m.kids.length m.cap] 27) = w1 := ⟨_, rfl⟩
  rw [hw1] at hB hE0
  have hsz1 : w1.heap.size = w.heap.size + 1 := by rw [← hw1]; simp
  have hPA : PpAt w1 (⟨w.heap.size, 0, none⟩, m) := ⟨w.heap.size, 0, rfl, by omega, by
    obtain ⟨⟨p0, p1, p2, p3, p4, p5, p6, p7⟩, _⟩ := hB.eight
    exact ⟨p0, p1, p2, p3, p4, p5, p6, p7⟩⟩
  have HE := Lib.hid hE0
  have hO := Ow.made (et := 77) (base := w1.heap.size) encPp w1 [(⟨w.heap.size, 0, none⟩, m)] #[.pointer (some ⟨w.heap.size, 0, none⟩)] rfl (Nat.le_refl _) (by simp)
  have HP : Hid (WiSt m b0 w1 (.slice (some ⟨w1.heap.size, 0, none⟩) 1 1) [(⟨w.heap.size, 0, none⟩, m)] 0 (w1.alloc (.cells #[.pointer (some ⟨w.heap.size, 0, none⟩)] 77))) := Lib.hid (WiSt.init h hE0 hPA hO (Ev.alloc _ _))
  clear h hB hE0 hPA hsz1 hO
  go_enter Tryz.func32, Tryz.ntmps32
  go_wp2
  go_loopw [6, 7] (fun av iv wr => ∃ (A : Option Addr) (n cap i : Nat) (L : List Pp), av = .slice A n cap ∧ iv = .int .i64 (i : Int) ∧ n ≤ most ∧ Hid (n = L.length) ∧ Hid (WiSt m b0 w1 (.slice A n cap) L i wr)) (fun _ iv _ => m.p.size - (intOf iv).toNat)
  case atStart => exact ⟨_, 1, 1, 0, [(⟨w.heap.size, 0, none⟩, m)], rfl, rfl, h1, Lib.hid rfl, HP⟩
  case round =>
    obtain ⟨A, n, cap, i, L, rfl, rfl, hnm, HNL, HS⟩ := hrel
    have hns := HS.out.short
    rw [← HNL.out] at hns
    obtain ⟨_, cap', hvv, hSl, hA⟩ := HS.out.own.form encPp
    injection hvv with h1 h2 h3
    subst h1
    subst h3
    clear h2 hA
    rw [← HNL.out] at hSl
    have hnc := hSl.le
    have hcm := hSl.max
    by_cases hi : i < n
    · obtain ⟨x, hx⟩ := hSl.at hi
      obtain ⟨b, off, rfl, hb, _⟩ := hSl.rd (by omega)
      have c0 := pp_cell hSl hx
      have HX := Lib.hid hx
      have hLx := HS.out.lies x (List.mem_of_getElem? hx)
      obtain ⟨b', off', e', hb', p0, p1, p2, p3, p4, p5, p6, p7⟩ := hLx.2.ev HS.out.ev
      rw [e'] at c0
      have hro := HS.out.room hx
      rw [← HNL.out] at hro
      have hps := hLx.1.ps
      have hkc := hps.le
      have hkm := hps.max
      have HPS := Lib.hid hps
      obtain ⟨kn, hkn⟩ : ∃ kn, kn = x.2.kids.length := ⟨_, rfl⟩
      rw [← hkn] at p7 hro hkc HPS
      have HKN := Lib.hid hkn
      have HSP := Lib.hid hSl
      have i1 : (0 : Int) ≤ (i : Int) := by omega
      have i2 : (i : Int) < (n : Int) := by omega
      clear hx hLx hps hkn e' hb p0 p1 p2 p3 p4 p5 p6 hSl
      by_cases hfit : kn + n ≤ most
      · have i3 : ¬ ((most : Int) - (n : Int) < (kn : Int)) := by omega
        go_wp2
        go_loopw [6, 33] (fun av jv wr2 => ∃ (A2 : Option Addr) (n2 cap2 j : Nat), av = .slice A2 n2 cap2 ∧ jv = .int .i64 (j : Int) ∧ j ≤ kn ∧ n2 = n + j ∧ Hid (Ow 77 1 ppc w1.heap.size wr2 (.slice A2 n2 cap2) (L ++ (kidsAt x.2).take j)) ∧ Hid (Ev w1 wr2)) (fun _ jv _ => kn - (intOf jv).toNat)
        case atStart => exact ⟨_, n, cap, 0, rfl, rfl, Nat.zero_le _, rfl, Lib.hid (by simpa using HS.out.own), Lib.hid HS.out.ev⟩
        case round =>
          rename World => wr2
          obtain ⟨A2, n2, cap2, j, rfl, rfl, hj, hn2, HO, HE2⟩ := hrel
          have HN2 := Lib.hid hn2
          by_cases hlt : j < kn
          · obtain ⟨y, hy⟩ := HPS.out.at hlt
            have hky := kidsAt_get x.2 hy
            obtain ⟨b2, off2, hA2e, hb2, _⟩ := HPS.out.rd (by omega)
            rw [hA2e] at hky
            simp only [kAddr] at hky
            rw [hA2e]
            have HTK : Hid ((kidsAt x.2).take (j + 1) = (kidsAt x.2).take j ++ [(⟨b2, off2 + j * 8, none⟩, y)]) := Lib.hid (drop_at hky).2
            have HLL : Hid ((L ++ (kidsAt x.2).take j).length = n2) := Lib.hid (by rw [List.length_append, List.length_take, kidsAt_len, ← HKN.out, ← HNL.out]; omega)
            have j1 : (0 : Int) ≤ (j : Int) := by omega
            have j2 : (j : Int) < (kn : Int) := by omega
            clear hy hky hn2
            go_wp2_with (first
              | ((show wpList _ _ _ (⟨some 41, _, _, _, _, _⟩ :: _) _ _); refine wpList_append_ow (o := ⟨some 41, _, _, _, _, _⟩) rfl 74 (.tmp 36) (.tmp 40) rfl encPp Tryz.underlying_pps Tryz.infoPp rfl rfl (HO.out.ev (Ev.alloc wr2 (.cells #[.pointer (some ⟨b2, off2 + j * 8, none⟩)] 77))) (some ⟨wr2.heap.size, 0, none⟩) 1 1 [(⟨b2, off2 + j * 8, none⟩, y)] rfl (Sl.one (et := 77) encPp wr2 (⟨b2, off2 + j * 8, none⟩, y) #[.pointer (some ⟨b2, off2 + j * 8, none⟩)] rfl) (by rw [HLL.out]; have := HN2.out; simp; omega) (by rw [HLL.out]; have := HN2.out; simp; omega) (HE2.out.trans (Ev.alloc _ _)).size ?_; intro v2 w2 hA2; have E2 := ((But.of_ev (HE2.out.trans (Ev.alloc _ _))).then hA2.2.1).ev (fun k hk => (HO.out.lt (mem_foot.1 hk)).1); have O2 := hA2.1; obtain ⟨A3, cap3, rfl, _, _⟩ := hA2.1.form encPp; generalize hnn : ((L ++ (kidsAt x.2).take j) ++ [((⟨b2, off2 + j * 8, none⟩, y) : Pp)]).length = nn at O2 ⊢; have HNN2 := Lib.hid hnn.symm; clear hnn))
            go_roundw
            case rel => exact ⟨A3, nn, cap3, j + 1, rfl, by go_num, by omega, by rw [HNN2.out, List.length_append, HLL.out, HN2.out]; rfl, Lib.hid (by rw [HTK.out, ← List.append_assoc]; exact O2), Lib.hid E2⟩
            case measure => simp [intOf]; omega
          · have hjk : j = kn := by omega
            subst hjk
            have S2 := HS.out.next HX.out (v' := .slice A2 n2 cap2) (by
              have := HO.out
              rwa [List.take_of_length_le (by rw [kidsAt_len, ← HKN.out]; exact Nat.le_refl _)] at this) HE2.out
            have S2 := Lib.hid S2
            have HNN : Hid (n2 = (L ++ kidsAt x.2).length) := Lib.hid (by rw [List.length_append, kidsAt_len, ← HKN.out, ← HNL.out]; exact hn2)
            have hnm2 : n2 ≤ most := by omega
            clear hn2
            go_wp2
            go_roundw
            case rel => exact ⟨A2, n2, cap2, i + 1, _, rfl, by go_num, hnm2, HNN, S2⟩
            case measure => simp [intOf]; omega
      · have i3 : ((most : Int) - (n : Int) < (kn : Int)) := by omega
        have hgt : most < m.p.size := by omega
        go_wp2
        go_ret2
        unfold WiOut
        exact .inr ⟨rfl, hgt, HE.out.trans HS.out.ev⟩
    · have hin : i = L.length := by have := HS.out.le; have := HNL.out; omega
      have i2 : ¬ ((i : Int) < (n : Int)) := by omega
      have HIN := Lib.hid hin
      have HSP := Lib.hid hSl
      have HZ : Hid (m.p.size ≤ most) := Lib.hid (by
        have h4 := HS.out.size
        rw [hin, List.drop_length] at h4
        have : sumL Pl.size [] = 0 := rfl
        rw [this, ← HNL.out] at h4
        omega)
      clear hin hSl
      go_wp2
      go_ret2
      unfold WiOut
      refine .inl ⟨A, n, cap, L, b0, rfl, HSP.out, fun x hx => (HS.out.lies x hx).2.ev HS.out.ev, fun f => ?_, HZ.out, HE.out.trans HS.out.ev⟩
      have := HS.out.sum f
      rw [HIN.out, List.take_length, List.drop_length] at this
      simpa [sumL] using this

set_option maxRecDepth 100000 in
set_option maxHeartbeats 4000000 in
theorem pl_Size (m : PM) (b0 : Nat) (w : World) (h : Qx b0 [] w m) (hsz : m.p.size ≤ 131072) :
    Calls Tryz.prog 12 #[pv m] w fun e w' => e = .returned (.int .i64 (m.p.size : Int)) ∧ Ev w w' := by
  have HW := Lib.hid (fun w1 (hE : Ev w w1) => pl_within m b0 131072 w1 (h.ev hE) (by omega) (by omega) (by omega))
  unfold WiOut at HW
  have hB := Bx.new 27 #[.int .i64 m.kind, .string ⟨m.name.toArray⟩, .slice m.ex.A m.ex.l.length m.ex.cap, .slice m.co.A m.co.l.length m.co.cap, .slice m.lf.A m.lf.l.length m.lf.cap, .slice m.rt.A m.rt.l.length m.rt.cap, .slice m.ag.A m.ag.l.length m.ag.cap, .slice m.A m.kids.length m.cap] w
  have hE0 := Ev.alloc w (.cells #[.int .i64 m.kind, .string ⟨m.name.toArray⟩, .slice m.ex.A m.ex.l.length m.ex.cap, .slice m.co.A m.co.l.length m.co.cap, .slice m.lf.A m.lf.l.length m.lf.cap, .slice m.rt.A m.rt.l.length m.rt.cap, .slice m.ag.A m.ag.l.length m.ag.cap, .slice m.A m.kids.length m.cap] 27)
  obtain ⟨⟨p0, p1, p2, p3, p4, p5, p6, p7⟩, _⟩ := hB.eight
  have HE := Lib.hid hE0
  have HSZ := Lib.hid hsz
  unfold pv Sle.v PM.kv at *
  rw [show ((131072 : Nat) : Int) = 131072 from rfl] at HW
  clear h hB hE0 hsz
  go_enter Tryz.func12, Tryz.ntmps12
  go_wp2_with (first
    | ((with_reducible refine (HW.out _ HE.out).mono ?_); rintro e w2 (⟨A, n, cap, L, _, rfl, hS, hP, hf, _, hE2⟩ | ⟨_, hgt, _⟩); rotate_left; exact absurd HSZ.out (by omega); simp only []; have HN : Hid (n = m.p.size) := Lib.hid (by rw [← hS.len, ← sumL_ones, hf, sum_one]); have hcl := hS.le; have hcm := hS.max; have HE2 := Lib.hid hE2; clear hS hP hf hE2 p0 p1 p2 p3 p4 p5 p6 p7))
  go_ret
  exact ⟨by rw [HN.out]; rfl, HE.out.trans HE2.out⟩
end Go.Proofs.YtojbahjebfcmgaaGreatDoor

namespace Go.Proofs.YtojbahjebfcmgaaGreatDoor
open Go.RowKit
set_option linter.unusedVariables false

theorem Ps.eight {w : World} {b off n cap : Nat} {l : List PM} (h : Ps w (some ⟨b, off, none⟩) n cap l) {i : Nat} {x : PM} (hx : l[i]? = some x) : EightAt w b (off + i * 8) x := Ps.cell h hx
theorem EightAt.ev {w w' : World} {b off : Nat} {m : PM} (h : EightAt w b off m) (hb : b < w.heap.size) (hE : Ev w w') : EightAt w' b off m := by
  obtain ⟨h0, h1, h2, h3, h4, h5, h6, h7⟩ := h
  exact ⟨(hE.cell (p := ⟨b, _, none⟩) hb).trans h0, (hE.cell (p := ⟨b, _, none⟩) hb).trans h1, (hE.cell (p := ⟨b, _, none⟩) hb).trans h2, (hE.cell (p := ⟨b, _, none⟩) hb).trans h3, (hE.cell (p := ⟨b, _, none⟩) hb).trans h4, (hE.cell (p := ⟨b, _, none⟩) hb).trans h5, (hE.cell (p := ⟨b, _, none⟩) hb).trans h6, (hE.cell (p := ⟨b, _, none⟩) hb).trans h7⟩
theorem run_load_plan {ρ : Operand → Value} {o : Oper} {x : Operand} {b off : Nat} {w : World} (m : PM) (ho : o.op = .load 27 x) (hx : ρ x = .pointer (some ⟨b, off, none⟩)) (hc : EightAt w b off m) :
    (execOp ρ o).run Tryz.prog w = .ok (.value (pv m)) w := by
  obtain ⟨c0, c1, c2, c3, c4, c5, c6, c7⟩ := hc
  unfold pv Sle.v PM.kv
  unfold execOp
  rw [ho]
  simp [hx, go_sem, c0, c1, c2, c3, c4, c5, c6, c7]

set_option maxRecDepth 100000 in
set_option maxHeartbeats 16000000 in
theorem ref9_same (N : Nat) : ∀ (m m' : PM) (b0 b0' : Nat) (w : World), m.dep ≤ N → Qx b0 [] w m → Qx b0' [] w m' → m.p = m'.p →
    Calls Tryz.prog 29 #[pv m, pv m'] w (Yes w) := by
  have hmix : Tryz.prog.follows .mixedOrders = true := by kernel_rfl
  induction N with
  | zero =>
    intro m m' b0 b0' w hd
    rw [PM.dep_eq] at hd
    omega
  | succ N ih =>
    intro m m' b0 b0' w hd hL hL' ht
    have ht2 := ht
    rw [PM.p_eq m, PM.p_eq m'] at ht2
    injection ht2 with e1 e2 e3 e4 e5 e6 e7 e8
    have hlex : m'.ex.l.length = m.ex.l.length := by have := congrArg List.length e3; simpa using this.symm
    have hlk : m'.kids.length = m.kids.length := by have := congrArg List.length e8; simpa using this.symm
    obtain ⟨hex, hlx, hco, hlf, hrt, hag, hks, hkq⟩ := hL.at
    obtain ⟨hex', hlx', hco', hlf', hrt', hag', hks', hkq'⟩ := hL'.at
    have HEX := Lib.hid (fun w1 (hE : Ev w w1) => ref9_exprs (M.deps m.ex.l) m.ex.l m'.ex.l b0 b0' w1 m.ex.A m.ex.l.length m.ex.cap m'.ex.A m'.ex.cap (Nat.le_refl _) e3 (hex.sl.ev hE) (by have := hex'.sl.ev hE; rwa [hlex] at this) (fun x hx => (hlx x hx).ev hE) (fun x hx => (hlx' x hx).ev hE))
    have HCO := Lib.hid (fun w1 (hE : Ev w w1) => ref9_texts w1 (hco.sl.ev hE) (by have := hco'.sl.ev hE; rwa [← e4] at this))
    have HLF := Lib.hid (fun w1 (hE : Ev w w1) => ref9_texts w1 (hlf.sl.ev hE) (by have := hlf'.sl.ev hE; rwa [← e5] at this))
    have HRT := Lib.hid (fun w1 (hE : Ev w w1) => ref9_texts w1 (hrt.sl.ev hE) (by have := hrt'.sl.ev hE; rwa [← e6] at this))
    have HKD := Lib.hid (fun i x x' (hx : m.kids[i]? = some x) (hx' : m'.kids[i]? = some x') w1 (hE : Ev w w1) => by
      have hxm := List.mem_of_getElem? hx
      refine ih x x' b0 b0' w1 (by have := PM.kid_dep hxm; omega) ((hkq x hxm).ev hE) ((hkq' x' (List.mem_of_getElem? hx')).ev hE) ?_
      have h1 : (m.kids.map PM.p)[i]? = some x.p := by rw [List.getElem?_map, hx]; rfl
      have h2 : (m'.kids.map PM.p)[i]? = some x'.p := by rw [List.getElem?_map, hx']; rfl
      rw [e8, h2] at h1
      exact (Option.some.inj h1).symm : ∀ i x x', m.kids[i]? = some x → m'.kids[i]? = some x' → ∀ w1, Ev w w1 → Calls Tryz.prog 29 #[pv x, pv x'] w1 (Yes w1))
    have hAG := hag.sl
    have hAG' := hag'.sl
    have hKS := hL.ps
    have hKS' := hL'.ps
    rw [← e7] at hAG'
    rw [hlk] at hKS'
    unfold Yes at HKD ⊢
    unfold pv Sle.v PM.kv
    rw [← e1, ← e2, hlex, hlk, ← e4, ← e5, ← e6, ← e7]
    obtain ⟨w0, hw0, hE0, hX, hB⟩ := bx_88 w (.int .i64 m.kind) (.string ⟨m.name.toArray⟩) (.slice m.ex.A m.ex.l.length m.ex.cap) (.slice m.co.A m.co.l.length m.co.cap) (.slice m.lf.A m.lf.l.length m.lf.cap) (.slice m.rt.A m.rt.l.length m.rt.cap) (.slice m.ag.A m.ag.l.length m.ag.cap) (.slice m.A m.kids.length m.cap) (.int .i64 m.kind) (.string ⟨m.name.toArray⟩) (.slice m'.ex.A m.ex.l.length m'.ex.cap) (.slice m'.co.A m.co.l.length m'.co.cap) (.slice m'.lf.A m.lf.l.length m'.lf.cap) (.slice m'.rt.A m.rt.l.length m'.rt.cap) (.slice m'.ag.A m.ag.l.length m'.ag.cap) (.slice m'.A m.kids.length m'.cap)
    obtain ⟨⟨p0, p1, p2, p3, p4, p5, p6, p7⟩, _⟩ := hX.eight
    obtain ⟨⟨q0, q1, q2, q3, q4, q5, q6, q7⟩, _⟩ := hB.eight
    have hle1 := hAG.le
    have hmx1 := hAG.max
    have hle2 := hAG'.le
    have hmx2 := hAG'.max
    have hle3 := hKS.le
    have hmx3 := hKS.max
    have hle4 := hKS'.le
    have hmx4 := hKS'.max
    have HE := Lib.hid hE0
    have HX := Lib.hid hX
    have HB := Lib.hid hB
    have HAG := Lib.hid hAG
    have HAG' := Lib.hid hAG'
    have HKS := Lib.hid hKS
    have HKS' := Lib.hid hKS'
    clear hAG hAG' hKS hKS' hX hB hE0 ih hd hL hL' ht e1 e2 e3 e4 e5 e6 e7 e8 hlex hlk hex hlx hco hlf hrt hag hks hkq hex' hlx' hco' hlf' hrt' hag' hks' hkq'
    generalize hagl : m.ag.l = agl at *
    generalize hkdl : m.kids = kdl at *
    generalize hkdl' : m'.kids = kdl' at *
    generalize hna : agl.length = na at *
    generalize hnk : kdl.length = nk at *
    clear hagl hkdl hkdl' hna hnk
    generalize m.ag.A = agA at *
    generalize m'.ag.A = agA' at *
    generalize m.A = kA at *
    generalize m'.A = kA' at *
    generalize m.ag.cap = agc at *
    generalize m'.ag.cap = agc' at *
    generalize m.cap = kc at *
    generalize m'.cap = kc' at *
    go_enter Tryz.func29, Tryz.ntmps29
    go_wp2_with (first
      | ((with_reducible refine (HEX.out _ HE.out).mono ?_); rintro e w1 ⟨rfl, hE1⟩; have F1 := Lib.hid hE1; have E1 := Lib.hid (HE.out.trans F1.out); clear hE1; clear p0 p1 p2 p3 p4 p5 p6 p7 q0 q1 q2 q3 q4 q5 q6 q7; obtain ⟨⟨p0, p1, p2, p3, p4, p5, p6, p7⟩, _⟩ := (HX.out.ev F1.out).eight; obtain ⟨⟨q0, q1, q2, q3, q4, q5, q6, q7⟩, _⟩ := (HB.out.ev F1.out).eight)
      | ((with_reducible refine (HCO.out _ E1.out).mono ?_); rintro e w2 ⟨rfl, hE2⟩; have F2 := Lib.hid (F1.out.trans hE2); have E2 := Lib.hid (HE.out.trans F2.out); clear hE2; clear p0 p1 p2 p3 p4 p5 p6 p7 q0 q1 q2 q3 q4 q5 q6 q7; obtain ⟨⟨p0, p1, p2, p3, p4, p5, p6, p7⟩, _⟩ := (HX.out.ev F2.out).eight; obtain ⟨⟨q0, q1, q2, q3, q4, q5, q6, q7⟩, _⟩ := (HB.out.ev F2.out).eight)
      | ((with_reducible refine (HLF.out _ E2.out).mono ?_); rintro e w3 ⟨rfl, hE3⟩; have F3 := Lib.hid (F2.out.trans hE3); have E3 := Lib.hid (HE.out.trans F3.out); clear hE3; clear p0 p1 p2 p3 p4 p5 p6 p7 q0 q1 q2 q3 q4 q5 q6 q7; obtain ⟨⟨p0, p1, p2, p3, p4, p5, p6, p7⟩, _⟩ := (HX.out.ev F3.out).eight; obtain ⟨⟨q0, q1, q2, q3, q4, q5, q6, q7⟩, _⟩ := (HB.out.ev F3.out).eight)
      | ((with_reducible refine (HRT.out _ E3.out).mono ?_); rintro e w4 ⟨rfl, hE4⟩; have F4 := Lib.hid (F3.out.trans hE4); have E4 := Lib.hid (HE.out.trans F4.out); clear hE4; clear p0 p1 p2 p3 p4 p5 p6 p7 q0 q1 q2 q3 q4 q5 q6 q7; obtain ⟨⟨p0, p1, p2, p3, p4, p5, p6, p7⟩, _⟩ := (HX.out.ev F4.out).eight; obtain ⟨⟨q0, q1, q2, q3, q4, q5, q6, q7⟩, _⟩ := (HB.out.ev F4.out).eight))
    clear p0 p1 p2 p3 p4 p5 p6 p7 q0 q1 q2 q3 q4 q5 q6 q7
    go_loopw [5] (fun iv wr => ∃ k : Nat, iv = .int .i64 (k : Int) ∧ k ≤ na ∧ Hid (Ev w0 wr)) (fun iv _ => na - (intOf iv).toNat)
    case atStart => exact ⟨0, rfl, Nat.zero_le _, F4⟩
    case round =>
      obtain ⟨k, rfl, hk, HER⟩ := hrel
      obtain ⟨⟨p0, p1, p2, p3, p4, p5, p6, p7⟩, _⟩ := (HX.out.ev HER.out).eight
      obtain ⟨⟨q0, q1, q2, q3, q4, q5, q6, q7⟩, _⟩ := (HB.out.ev HER.out).eight
      clear p0 p1 p2 p3 p4 p5 q0 q1 q2 q3 q4 q5
      by_cases hlt : k < na
      · obtain ⟨x, hx⟩ := HAG.out.at hlt
        obtain ⟨b, off, rfl, hb, hc⟩ := (HAG.out.ev (HE.out.trans HER.out)).rd (by omega)
        obtain ⟨b', off', rfl, hb', hc'⟩ := (HAG'.out.ev (HE.out.trans HER.out)).rd (by omega)
        have c0 := hc k x hx 0 _ rfl
        have d0 := hc' k x hx 0 _ rfl
        have c1 := hc k x hx 1 _ rfl
        have d1 := hc' k x hx 1 _ rfl
        have c2 := hc k x hx 2 _ rfl
        have d2 := hc' k x hx 2 _ rfl
        simp only [Nat.add_zero] at c0 d0
        have i1 : (0 : Int) ≤ (k : Int) := by omega
        have i2 : (k : Int) < (na : Int) := by omega
        clear hx hc hc'
        go_upto_region 6 with fail
        go_region
        all_goals (
          go_wp2
          go_roundw
          case rel => exact ⟨k + 1, by go_num, by omega, Lib.hid (HER.out.trans (Ev.drew _))⟩
          case measure => simp [intOf]; omega)
      · obtain rfl : k = na := by omega
        go_wp2
        go_loopw [6] (fun iv wr2 => ∃ j : Nat, iv = .int .i64 (j : Int) ∧ j ≤ nk ∧ Hid (Ev w0 wr2)) (fun iv _ => nk - (intOf iv).toNat)
        case atStart => exact ⟨0, rfl, Nat.zero_le _, HER⟩
        case round =>
          rename World => wr2
          obtain ⟨j, rfl, hj, HE2⟩ := hrel
          clear p6 p7 q6 q7
          obtain ⟨⟨p0, p1, p2, p3, p4, p5, p6, p7⟩, _⟩ := (HX.out.ev HE2.out).eight
          obtain ⟨⟨q0, q1, q2, q3, q4, q5, q6, q7⟩, _⟩ := (HB.out.ev HE2.out).eight
          clear p0 p1 p2 p3 p4 p5 p6 q0 q1 q2 q3 q4 q5 q6
          by_cases hlt2 : j < nk
          · obtain ⟨x, hx⟩ := HKS.out.at hlt2
            obtain ⟨x', hx'⟩ := HKS'.out.at hlt2
            obtain ⟨b, off, rfl, hb, _⟩ := (HKS.out.ev (HE.out.trans HE2.out)).rd (by omega)
            obtain ⟨b', off', rfl, hb', _⟩ := (HKS'.out.ev (HE.out.trans HE2.out)).rd (by omega)
            have HPX := Lib.hid (Ps.eight (HKS.out.ev (HE.out.trans HE2.out)) hx)
            have HPY := Lib.hid (Ps.eight (HKS'.out.ev (HE.out.trans HE2.out)) hx')
            have HC := Lib.hid (fun wq (hE : Ev wr2 wq) => HKD.out j x x' hx hx' wq ((HE.out.trans HE2.out).trans hE))
            have hbx := (HX.out.ev HE2.out).lt
            have hby := (HB.out.ev HE2.out).lt
            have i1 : (0 : Int) ≤ (j : Int) := by omega
            have i2 : (j : Int) < (nk : Int) := by omega
            clear hx hx'
            go_upto_region 11 with fail
            refine wp_region_slots hmix [fun v _ => v = .pointer (some ⟨w.heap.size, 7, none⟩), fun v _ => v = .slice (some ⟨b, off, none⟩) nk kc, fun v _ => v = .int .i64 (j : Int), fun v _ => v = .pointer (some ⟨b, off + j * 8, none⟩), fun v _ => v = pv x, fun v _ => v = .pointer (some ⟨w.heap.size + 1, 7, none⟩), fun v _ => v = .slice (some ⟨b', off', none⟩) nk kc', fun v _ => v = .int .i64 (j : Int), fun v _ => v = .pointer (some ⟨b', off' + j * 8, none⟩), fun v _ => v = pv x', fun v _ => v = .bool true, fun v _ => v = .bool false]
              106 rfl (by kernel_rfl) ⟨mono_eq _, mono_eq _, mono_eq _, mono_eq _, mono_eq _, mono_eq _, mono_eq _, mono_eq _, mono_eq _, mono_eq _, mono_eq _, mono_eq _, trivial⟩ ?_ ?_
            · refine ops_cons 0 ?_ (ops_cons 1 ?_ (ops_cons 2 ?_ (ops_cons 3 ?_ (ops_cons 4 ?_ (ops_cons 5 ?_ (ops_cons 6 ?_ (ops_cons 7 ?_ (ops_cons 8 ?_ (ops_cons 9 ?_ (ops_cons 10 ?_ (ops_cons 11 ?_ (ops_nil 12))))))))))))
              · refine op_value fun a wq c => ⟨(wanted_plain rfl), .pointer (some ⟨w.heap.size, 7, none⟩), ?_, rfl⟩
                have e2 : a.eval (.tmp 2) = .pointer (some ⟨w.heap.size, 0, none⟩) := (c.was 2 (by kernel_rfl) rfl)
                generalize a.eval = ρ at e2 ⊢
                simp [execOp, e2, go_sem]
              · refine op_value fun a wq c => ⟨(wanted_plain rfl), .slice (some ⟨b, off, none⟩) nk kc, ?_, rfl⟩
                have e_0 : a.eval (.tmp 94) = .pointer (some ⟨w.heap.size, 7, none⟩) := (c.new 0 94 (by kernel_rfl) (by kernel_rfl))
                have hc := (c.ev.cell (p := ⟨w.heap.size, 7, none⟩) hbx).trans p7
                generalize a.eval = ρ at e_0 ⊢
                simp [execOp, e_0, hc, go_sem]
              · refine op_value fun a wq c => ⟨(wanted_plain rfl), _, run_move _ rfl wq, (c.was 6 (by kernel_rfl) rfl)⟩
              · refine op_value fun a wq c => ⟨(wanted_plain rfl), .pointer (some ⟨b, off + j * 8, none⟩), ?_, rfl⟩
                have e95 : a.eval (.tmp 95) = .slice (some ⟨b, off, none⟩) nk kc := (c.new 1 95 (by kernel_rfl) (by kernel_rfl))
                have e96 : a.eval (.tmp 96) = .int .i64 (j : Int) := (c.new 2 96 (by kernel_rfl) (by kernel_rfl))
                generalize a.eval = ρ at e95 e96 ⊢
                simp [execOp, e95, e96, go_sem, i1, i2]
              · refine op_value fun a wq c => ⟨(wanted_plain rfl), _, run_load_plan x rfl (c.new 3 97 (by kernel_rfl) (by kernel_rfl)) (HPX.out.ev hb c.ev), rfl⟩
              · refine op_value fun a wq c => ⟨(wanted_plain rfl), .pointer (some ⟨w.heap.size + 1, 7, none⟩), ?_, rfl⟩
                have e3 : a.eval (.tmp 3) = .pointer (some ⟨w.heap.size + 1, 0, none⟩) := (c.was 3 (by kernel_rfl) rfl)
                generalize a.eval = ρ at e3 ⊢
                simp [execOp, e3, go_sem]
              · refine op_value fun a wq c => ⟨(wanted_plain rfl), .slice (some ⟨b', off', none⟩) nk kc', ?_, rfl⟩
                have e_0 : a.eval (.tmp 99) = .pointer (some ⟨w.heap.size + 1, 7, none⟩) := (c.new 5 99 (by kernel_rfl) (by kernel_rfl))
                have hc := (c.ev.cell (p := ⟨w.heap.size + 1, 7, none⟩) hby).trans q7
                generalize a.eval = ρ at e_0 ⊢
                simp [execOp, e_0, hc, go_sem]
              · refine op_value fun a wq c => ⟨(wanted_plain rfl), _, run_move _ rfl wq, (c.was 6 (by kernel_rfl) rfl)⟩
              · refine op_value fun a wq c => ⟨(wanted_plain rfl), .pointer (some ⟨b', off' + j * 8, none⟩), ?_, rfl⟩
                have e100 : a.eval (.tmp 100) = .slice (some ⟨b', off', none⟩) nk kc' := (c.new 6 100 (by kernel_rfl) (by kernel_rfl))
                have e101 : a.eval (.tmp 101) = .int .i64 (j : Int) := (c.new 7 101 (by kernel_rfl) (by kernel_rfl))
                generalize a.eval = ρ at e100 e101 ⊢
                simp [execOp, e100, e101, go_sem, i1, i2]
              · refine op_value fun a wq c => ⟨(wanted_plain rfl), _, run_load_plan x' rfl (c.new 8 102 (by kernel_rfl) (by kernel_rfl)) (HPY.out.ev hb' c.ev), rfl⟩
              · refine op_call fun a wq c => ⟨(wanted_plain rfl), 29, #[pv x, pv x'], ?_, ?_⟩
                · rw [run_call 29 _ _ rfl (by kernel_rfl)]
                  have e98 : a.eval (.tmp 98) = pv x := (c.new 4 98 (by kernel_rfl) (by kernel_rfl))
                  have e103 : a.eval (.tmp 103) = pv x' := (c.new 9 103 (by kernel_rfl) (by kernel_rfl))
                  simp [e98, e103]
                · refine (HC.out wq c.ev).mono ?_
                  rintro e w2 ⟨rfl, hE⟩
                  exact ⟨_, rfl, hE, rfl⟩
              · refine op_value fun a wq c => ⟨(wanted_plain rfl), .bool false, ?_, rfl⟩
                have e104 : a.eval (.tmp 104) = .bool true := (c.new 10 104 (by kernel_rfl) (by kernel_rfl))
                generalize a.eval = ρ at e104 ⊢
                simp [execOp, e104, go_sem]
            intro sl wv hEr hold hnew
            have f0 : sl 0 = .agg #[.int .i64 m.kind, .string ⟨m.name.toArray⟩, .slice m.ex.A m.ex.l.length m.ex.cap, .slice m.co.A m.co.l.length m.co.cap, .slice m.lf.A m.lf.l.length m.lf.cap, .slice m.rt.A m.rt.l.length m.rt.cap, .slice agA k agc, .slice (some ⟨b, off, none⟩) nk kc] := hold 0 (by kernel_rfl)
            have f1 : sl 1 = .agg #[.int .i64 m.kind, .string ⟨m.name.toArray⟩, .slice m'.ex.A m.ex.l.length m'.ex.cap, .slice m'.co.A m.co.l.length m'.co.cap, .slice m'.lf.A m.lf.l.length m'.lf.cap, .slice m'.rt.A m.rt.l.length m'.rt.cap, .slice agA' k agc', .slice (some ⟨b', off', none⟩) nk kc'] := hold 1 (by kernel_rfl)
            have f2 : sl 2 = .pointer (some ⟨w.heap.size, 0, none⟩) := hold 2 (by kernel_rfl)
            have f3 : sl 3 = .pointer (some ⟨w.heap.size + 1, 0, none⟩) := hold 3 (by kernel_rfl)
            have f4 : sl 4 = u4 := hold 4 (by kernel_rfl)
            have f5 : sl 5 = .int .i64 (k : Int) := hold 5 (by kernel_rfl)
            have f6 : sl 6 = .int .i64 (j : Int) := hold 6 (by kernel_rfl)
            have f7 : sl 7 = .pointer (some ⟨w.heap.size, 0, none⟩) := hold 7 (by kernel_rfl)
            have f8 : sl 8 = .int .i64 m.kind := hold 8 (by kernel_rfl)
            have f9 : sl 9 = .pointer (some ⟨w.heap.size + 1, 0, none⟩) := hold 9 (by kernel_rfl)
            have f10 : sl 10 = .int .i64 m.kind := hold 10 (by kernel_rfl)
            have f11 : sl 11 = .bool false := hold 11 (by kernel_rfl)
            have f12 : sl 12 = .bool false := hold 12 (by kernel_rfl)
            have f13 : sl 13 = .pointer (some ⟨w.heap.size, 1, none⟩) := hold 13 (by kernel_rfl)
            have f14 : sl 14 = .string ⟨m.name.toArray⟩ := hold 14 (by kernel_rfl)
            have f15 : sl 15 = .pointer (some ⟨w.heap.size + 1, 1, none⟩) := hold 15 (by kernel_rfl)
            have f16 : sl 16 = .string ⟨m.name.toArray⟩ := hold 16 (by kernel_rfl)
            have f17 : sl 17 = .bool false := hold 17 (by kernel_rfl)
            have f18 : sl 18 = .bool false := hold 18 (by kernel_rfl)
            have f19 : sl 19 = .bool false := hold 19 (by kernel_rfl)
            have f20 : sl 20 = .pointer (some ⟨w.heap.size, 2, none⟩) := hold 20 (by kernel_rfl)
            have f21 : sl 21 = .slice m.ex.A m.ex.l.length m.ex.cap := hold 21 (by kernel_rfl)
            have f22 : sl 22 = .pointer (some ⟨w.heap.size + 1, 2, none⟩) := hold 22 (by kernel_rfl)
            have f23 : sl 23 = .slice m'.ex.A m.ex.l.length m'.ex.cap := hold 23 (by kernel_rfl)
            have f24 : sl 24 = .bool true := hold 24 (by kernel_rfl)
            have f25 : sl 25 = .bool false := hold 25 (by kernel_rfl)
            have f26 : sl 26 = .bool false := hold 26 (by kernel_rfl)
            have f27 : sl 27 = .bool false := hold 27 (by kernel_rfl)
            have f28 : sl 28 = .pointer (some ⟨w.heap.size, 3, none⟩) := hold 28 (by kernel_rfl)
            have f29 : sl 29 = .slice m.co.A m.co.l.length m.co.cap := hold 29 (by kernel_rfl)
            have f30 : sl 30 = .pointer (some ⟨w.heap.size + 1, 3, none⟩) := hold 30 (by kernel_rfl)
            have f31 : sl 31 = .slice m'.co.A m.co.l.length m'.co.cap := hold 31 (by kernel_rfl)
            have f32 : sl 32 = .bool true := hold 32 (by kernel_rfl)
            have f33 : sl 33 = .bool false := hold 33 (by kernel_rfl)
            have f34 : sl 34 = .bool false := hold 34 (by kernel_rfl)
            have f35 : sl 35 = .bool false := hold 35 (by kernel_rfl)
            have f36 : sl 36 = .pointer (some ⟨w.heap.size, 4, none⟩) := hold 36 (by kernel_rfl)
            have f37 : sl 37 = .slice m.lf.A m.lf.l.length m.lf.cap := hold 37 (by kernel_rfl)
            have f38 : sl 38 = .pointer (some ⟨w.heap.size + 1, 4, none⟩) := hold 38 (by kernel_rfl)
            have f39 : sl 39 = .slice m'.lf.A m.lf.l.length m'.lf.cap := hold 39 (by kernel_rfl)
            have f40 : sl 40 = .bool true := hold 40 (by kernel_rfl)
            have f41 : sl 41 = .bool false := hold 41 (by kernel_rfl)
            have f42 : sl 42 = .bool false := hold 42 (by kernel_rfl)
            have f43 : sl 43 = .bool false := hold 43 (by kernel_rfl)
            have f44 : sl 44 = .pointer (some ⟨w.heap.size, 5, none⟩) := hold 44 (by kernel_rfl)
            have f45 : sl 45 = .slice m.rt.A m.rt.l.length m.rt.cap := hold 45 (by kernel_rfl)
            have f46 : sl 46 = .pointer (some ⟨w.heap.size + 1, 5, none⟩) := hold 46 (by kernel_rfl)
            have f47 : sl 47 = .slice m'.rt.A m.rt.l.length m'.rt.cap := hold 47 (by kernel_rfl)
            have f48 : sl 48 = .bool true := hold 48 (by kernel_rfl)
            have f49 : sl 49 = .bool false := hold 49 (by kernel_rfl)
            have f50 : sl 50 = .bool false := hold 50 (by kernel_rfl)
            have f51 : sl 51 = .bool false := hold 51 (by kernel_rfl)
            have f52 : sl 52 = .pointer (some ⟨w.heap.size, 6, none⟩) := hold 52 (by kernel_rfl)
            have f53 : sl 53 = .slice agA k agc := hold 53 (by kernel_rfl)
            have f54 : sl 54 = .int .i64 (k : Int) := hold 54 (by kernel_rfl)
            have f55 : sl 55 = .pointer (some ⟨w.heap.size + 1, 6, none⟩) := hold 55 (by kernel_rfl)
            have f56 : sl 56 = .slice agA' k agc' := hold 56 (by kernel_rfl)
            have f57 : sl 57 = .int .i64 (k : Int) := hold 57 (by kernel_rfl)
            have f58 : sl 58 = .bool false := hold 58 (by kernel_rfl)
            have f59 : sl 59 = .bool false := hold 59 (by kernel_rfl)
            have f60 : sl 60 = .bool false := hold 60 (by kernel_rfl)
            have f61 : sl 61 = .pointer (some ⟨w.heap.size, 7, none⟩) := hold 61 (by kernel_rfl)
            have f62 : sl 62 = .slice (some ⟨b, off, none⟩) nk kc := hold 62 (by kernel_rfl)
            have f63 : sl 63 = .int .i64 (nk : Int) := hold 63 (by kernel_rfl)
            have f64 : sl 64 = .pointer (some ⟨w.heap.size + 1, 7, none⟩) := hold 64 (by kernel_rfl)
            have f65 : sl 65 = .slice (some ⟨b', off', none⟩) nk kc' := hold 65 (by kernel_rfl)
            have f66 : sl 66 = .int .i64 (nk : Int) := hold 66 (by kernel_rfl)
            have f67 : sl 67 = .bool false := hold 67 (by kernel_rfl)
            have f68 : sl 68 = .bool false := hold 68 (by kernel_rfl)
            have f69 : sl 69 = .int .i64 (k : Int) := hold 69 (by kernel_rfl)
            have f70 : sl 70 = .pointer (some ⟨w.heap.size, 6, none⟩) := hold 70 (by kernel_rfl)
            have f71 : sl 71 = .slice agA k agc := hold 71 (by kernel_rfl)
            have f72 : sl 72 = .int .i64 (k : Int) := hold 72 (by kernel_rfl)
            have f73 : sl 73 = .bool false := hold 73 (by kernel_rfl)
            have f74 : sl 74 = u74 := hold 74 (by kernel_rfl)
            have f75 : sl 75 = u75 := hold 75 (by kernel_rfl)
            have f76 : sl 76 = u76 := hold 76 (by kernel_rfl)
            have f77 : sl 77 = u77 := hold 77 (by kernel_rfl)
            have f78 : sl 78 = u78 := hold 78 (by kernel_rfl)
            have f79 : sl 79 = u79 := hold 79 (by kernel_rfl)
            have f80 : sl 80 = u80 := hold 80 (by kernel_rfl)
            have f81 : sl 81 = u81 := hold 81 (by kernel_rfl)
            have f82 : sl 82 = u82 := hold 82 (by kernel_rfl)
            have f83 : sl 83 = u83 := hold 83 (by kernel_rfl)
            have f84 : sl 84 = u84 := hold 84 (by kernel_rfl)
            have f85 : sl 85 = u85 := hold 85 (by kernel_rfl)
            have f86 : sl 86 = u86 := hold 86 (by kernel_rfl)
            have f87 : sl 87 = .int .i64 (j : Int) := hold 87 (by kernel_rfl)
            have f88 : sl 88 = .pointer (some ⟨w.heap.size, 7, none⟩) := hold 88 (by kernel_rfl)
            have f89 : sl 89 = .slice (some ⟨b, off, none⟩) nk kc := hold 89 (by kernel_rfl)
            have f90 : sl 90 = .int .i64 (nk : Int) := hold 90 (by kernel_rfl)
            have f91 : sl 91 = .bool true := hold 91 (by kernel_rfl)
            have f92 : sl 92 = u92 := hold 92 (by kernel_rfl)
            have f93 : sl 93 = u93 := hold 93 (by kernel_rfl)
            have f94 : sl 94 = .pointer (some ⟨w.heap.size, 7, none⟩) := hnew 0 94 (by kernel_rfl)
            have f95 : sl 95 = .slice (some ⟨b, off, none⟩) nk kc := hnew 1 95 (by kernel_rfl)
            have f96 : sl 96 = .int .i64 (j : Int) := hnew 2 96 (by kernel_rfl)
            have f97 : sl 97 = .pointer (some ⟨b, off + j * 8, none⟩) := hnew 3 97 (by kernel_rfl)
            have f98 : sl 98 = pv x := hnew 4 98 (by kernel_rfl)
            have f99 : sl 99 = .pointer (some ⟨w.heap.size + 1, 7, none⟩) := hnew 5 99 (by kernel_rfl)
            have f100 : sl 100 = .slice (some ⟨b', off', none⟩) nk kc' := hnew 6 100 (by kernel_rfl)
            have f101 : sl 101 = .int .i64 (j : Int) := hnew 7 101 (by kernel_rfl)
            have f102 : sl 102 = .pointer (some ⟨b', off' + j * 8, none⟩) := hnew 8 102 (by kernel_rfl)
            have f103 : sl 103 = pv x' := hnew 9 103 (by kernel_rfl)
            have f104 : sl 104 = .bool true := hnew 10 104 (by kernel_rfl)
            have f105 : sl 105 = .bool false := hnew 11 105 (by kernel_rfl)
            change Exit.then _ _ .normal ⟨#[sl 0, sl 1, sl 2, sl 3, sl 4, sl 5, sl 6, sl 7, sl 8, sl 9, sl 10, sl 11, sl 12, sl 13, sl 14, sl 15, sl 16, sl 17, sl 18, sl 19, sl 20, sl 21, sl 22, sl 23, sl 24, sl 25, sl 26, sl 27, sl 28, sl 29, sl 30, sl 31, sl 32, sl 33, sl 34, sl 35, sl 36, sl 37, sl 38, sl 39, sl 40, sl 41, sl 42, sl 43, sl 44, sl 45, sl 46, sl 47, sl 48, sl 49, sl 50, sl 51, sl 52, sl 53, sl 54, sl 55, sl 56, sl 57, sl 58, sl 59, sl 60, sl 61, sl 62, sl 63, sl 64, sl 65, sl 66, sl 67, sl 68, sl 69, sl 70, sl 71, sl 72, sl 73, sl 74, sl 75, sl 76, sl 77, sl 78, sl 79, sl 80, sl 81, sl 82, sl 83, sl 84, sl 85, sl 86, sl 87, sl 88, sl 89, sl 90, sl 91, sl 92, sl 93, sl 94, sl 95, sl 96, sl 97, sl 98, sl 99, sl 100, sl 101, sl 102, sl 103, sl 104, sl 105], _⟩ _
            simp only [f0, f1, f2, f3, f4, f5, f6, f7, f8, f9, f10, f11, f12, f13, f14, f15, f16, f17, f18, f19, f20, f21, f22, f23, f24, f25, f26, f27, f28, f29, f30, f31, f32, f33, f34, f35, f36, f37, f38, f39, f40, f41, f42, f43, f44, f45, f46, f47, f48, f49, f50, f51, f52, f53, f54, f55, f56, f57, f58, f59, f60, f61, f62, f63, f64, f65, f66, f67, f68, f69, f70, f71, f72, f73, f74, f75, f76, f77, f78, f79, f80, f81, f82, f83, f84, f85, f86, f87, f88, f89, f90, f91, f92, f93, f94, f95, f96, f97, f98, f99, f100, f101, f102, f103, f104, f105]
            clear hold hnew
            go_wp2
            go_roundw
            case rel => exact ⟨j + 1, by go_num, by omega, Lib.hid (HE2.out.trans hEr)⟩
            case measure => simp [intOf]; omega
          · obtain rfl : j = nk := by omega
            go_wp2
            go_ret
            exact ⟨rfl, HE.out.trans HE2.out⟩
theorem keep_plan (m m' : PM) (b0 b0' : Nat) (w : World) (hL : Qx b0 [] w m) (hL' : Qx b0' [] w m') (ht : m.p = m'.p) :
    Calls Tryz.prog 9 #[pv m, pv m'] w (Yes w) := by
  have HS := Lib.hid (fun w1 (hE : Ev w w1) => ref9_same m.dep m m' b0 b0' w1 (Nat.le_refl _) (hL.ev hE) (hL'.ev hE) ht)
  unfold Yes at HS ⊢
  unfold pv Sle.v PM.kv at *
  obtain ⟨w0, hw0, hE0, hX, hB⟩ := bx_88 w (.int .i64 m.kind) (.string ⟨m.name.toArray⟩) (.slice m.ex.A m.ex.l.length m.ex.cap) (.slice m.co.A m.co.l.length m.co.cap) (.slice m.lf.A m.lf.l.length m.lf.cap) (.slice m.rt.A m.rt.l.length m.rt.cap) (.slice m.ag.A m.ag.l.length m.ag.cap) (.slice m.A m.kids.length m.cap) (.int .i64 m'.kind) (.string ⟨m'.name.toArray⟩) (.slice m'.ex.A m'.ex.l.length m'.ex.cap) (.slice m'.co.A m'.co.l.length m'.co.cap) (.slice m'.lf.A m'.lf.l.length m'.lf.cap) (.slice m'.rt.A m'.rt.l.length m'.rt.cap) (.slice m'.ag.A m'.ag.l.length m'.ag.cap) (.slice m'.A m'.kids.length m'.cap)
  obtain ⟨⟨p0, p1, p2, p3, p4, p5, p6, p7⟩, _⟩ := hX.eight
  obtain ⟨⟨q0, q1, q2, q3, q4, q5, q6, q7⟩, _⟩ := hB.eight
  have HE := Lib.hid hE0
  clear hX hB hE0 hL hL' ht
  go_enter Tryz.func9, Tryz.ntmps9
  go_wp2_with (first
    | ((with_reducible refine (HS.out _ HE.out).mono ?_); rintro e w1 ⟨rfl, hE1⟩))
  go_ret
  exact ⟨rfl, HE.out.trans hE1⟩
end Go.Proofs.YtojbahjebfcmgaaGreatDoor

namespace Go.Proofs.YtojbahjebfcmgaaGreatDoor
open Go.RowKit
set_option linter.unusedVariables false

theorem bx_pl (w : World) (m : PM) : ∃ w0, w.alloc (.cells #[.int .i64 m.kind, .string ⟨m.name.toArray⟩, .slice m.ex.A m.ex.l.length m.ex.cap, .slice m.co.A m.co.l.length m.co.cap, .slice m.lf.A m.lf.l.length m.lf.cap, .slice m.rt.A m.rt.l.length m.rt.cap, .slice m.ag.A m.ag.l.length m.ag.cap, .slice m.A m.kids.length m.cap] 27) = w0 ∧ Ev w w0 ∧ Bx 27 w.heap.size #[.int .i64 m.kind, .string ⟨m.name.toArray⟩, .slice m.ex.A m.ex.l.length m.ex.cap, .slice m.co.A m.co.l.length m.co.cap, .slice m.lf.A m.lf.l.length m.lf.cap, .slice m.rt.A m.rt.l.length m.rt.cap, .slice m.ag.A m.ag.l.length m.ag.cap, .slice m.A m.kids.length m.cap] w0 ∧ w0.heap.size = w.heap.size + 1 := ⟨_, rfl, Ev.alloc _ _, Bx.new _ _ _, by simp⟩
/-- What within gives, for what goes through it. -/
def WiAny (m : PM) (most : Nat) (w : World) (e : Ending) (w' : World) : Prop :=
  ∃ (A : Option Addr) (n cap : Nat) (L : List Pp), e = .returned (.tuple #[.slice A n cap, .bool (decide (m.p.size ≤ most))]) ∧ Sl 1 ppc w' A n cap L ∧ (∀ x ∈ L, PpAt w' x) ∧ (m.p.size ≤ most → ∀ f : Pl → Nat, sumL f L = m.p.sum f) ∧ (¬ m.p.size ≤ most → L = []) ∧ n ≤ most ∧ Ev w w'
theorem WiOut.any {m : PM} {most : Nat} {w w' : World} {e : Ending} (h : WiOut m most w e w') : WiAny m most w e w' := by
  rcases h with ⟨A, n, cap, L, b0, rfl, hS, hP, hf, hs, hE⟩ | ⟨rfl, hs, hE⟩
  · refine ⟨A, n, cap, L, by rw [decide_eq_true hs], hS, hP, fun _ => hf, fun h => absurd hs h, ?_, hE⟩
    have h1 := hf fun _ => 1
    rw [sumL_ones, sum_one, hS.len] at h1
    omega
  · exact ⟨none, 0, 0, [], by rw [decide_eq_false (by omega)], Sl.nil_ w', (fun x hx => by cases hx), fun h => absurd h (by omega), fun _ => rfl, Nat.zero_le _, hE⟩
theorem sumL_take (f : Pl → Nat) (L : List Pp) {k : Nat} {x : Pp} (h : L[k]? = some x) : sumL f (L.take (k + 1)) = sumL f (L.take k) + f x.2.p := by
  rw [(drop_at h).2, sumL_append]
  simp [sumL]
theorem sumL_le (f : Pl → Nat) (L : List Pp) (k : Nat) : sumL f (L.take k) ≤ sumL f L := by
  have := sumL_append f (L.take k) (L.drop k)
  rw [List.take_append_drop] at this
  omega
theorem partF_m (x : PM) : partF x.p = x.ex.l.length + x.co.l.length + x.lf.l.length + x.rt.l.length + x.ag.l.length := by
  rw [PM.p_eq]
  simp [partF, Pl.exprs, Pl.cols, Pl.left, Pl.right, Pl.aggs]

set_option maxRecDepth 100000 in
set_option maxHeartbeats 8000000 in
theorem pl_isSmall (m : PM) (b0 : Nat) (w : World) (h : Qx b0 [] w m) (hsz : m.p.size ≤ 1000000) (hpt : m.p.sum partF ≤ 1000000000) :
    Calls Tryz.prog 30 #[pv m] w fun e w' => e = .returned (.bool (decide (m.p.size ≤ 600 ∧ m.p.sum partF ≤ 600))) ∧ Ev w w' := by
  have HW := Lib.hid (fun w1 (hE : Ev w w1) => (pl_within m b0 600 w1 (h.ev hE) hsz (by omega) (by omega)).mono fun e w2 h => h.any)
  unfold WiAny at HW
  obtain ⟨w0, hw0, hE0, hB, _⟩ := bx_pl w m
  obtain ⟨⟨p0, p1, p2, p3, p4, p5, p6, p7⟩, _⟩ := hB.eight
  have HE := Lib.hid hE0
  have HPT := Lib.hid hpt
  obtain ⟨ok, hok⟩ : ∃ ok, ok = decide (m.p.size ≤ 600) := ⟨_, rfl⟩
  have HOK := Lib.hid hok
  rw [← hok] at HW
  unfold pv Sle.v PM.kv at *
  rw [show ((600 : Nat) : Int) = 600 from rfl] at HW
  clear h hB hE0 hsz hpt hok
  go_enter Tryz.func30, Tryz.ntmps30
  go_wp2_with (first
    | ((with_reducible refine (HW.out _ HE.out).mono ?_); rintro e w2 ⟨A, n, cap, L, rfl, hS, hP, hf, hno, hn6, hE2⟩; simp only []; have HS := Lib.hid hS; have HP := Lib.hid hP; have HF := Lib.hid hf; have HNO := Lib.hid hno; have hcl := hS.le; have hcm := hS.max; have HE2 := Lib.hid hE2; have HLN := Lib.hid hS.len; clear hS hP hf hno hE2 p0 p1 p2 p3 p4 p5 p6 p7))
  have HB := Lib.hid (by
    by_cases hs : m.p.size ≤ 600
    · rw [HF.out hs]; exact HPT.out
    · rw [HNO.out hs]; simp [sumL] : sumL partF L ≤ 1000000000)
  go_loopw [5, 15] (fun rv iv wr => ∃ (k s : Nat), rv = .int .i64 (600 - (s : Int)) ∧ iv = .int .i64 (k : Int) ∧ k ≤ n ∧ s ≤ 1000000000 ∧ Hid (s = sumL partF (L.take k)) ∧ Hid (Ev w2 wr)) (fun _ iv _ => n - (intOf iv).toNat)
  case atStart => exact ⟨0, 0, rfl, rfl, Nat.zero_le _, by omega, Lib.hid rfl, Lib.hid (Ev.refl _)⟩
  case round =>
    obtain ⟨k, s, rfl, rfl, hk, hsb, HSS, HER⟩ := hrel
    by_cases hlt : k < n
    · obtain ⟨x, hx⟩ := HS.out.at hlt
      obtain ⟨b, off, rfl, hb, _⟩ := (HS.out.ev HER.out).rd (by omega)
      have c0 := pp_cell (HS.out.ev HER.out) hx
      obtain ⟨b', off', e', hb', p0, p1, p2, p3, p4, p5, p6, p7⟩ := (HP.out x (List.mem_of_getElem? hx)).ev HER.out
      rw [e'] at c0
      have hst := sumL_take partF L hx
      have hsl := sumL_le partF L (k + 1)
      rw [partF_m, ← HSS.out] at hst
      have hbd := HB.out
      have HST := Lib.hid hst
      have b1 : s + (x.2.ex.l.length + x.2.co.l.length + x.2.lf.l.length + x.2.rt.l.length + x.2.ag.l.length) ≤ 1000000000 := by omega
      generalize x.2.ex.l.length = n1 at *
      generalize x.2.co.l.length = n2 at *
      generalize x.2.lf.l.length = n3 at *
      generalize x.2.rt.l.length = n4 at *
      generalize x.2.ag.l.length = n5 at *
      have i1 : (0 : Int) ≤ (k : Int) := by omega
      have i2 : (k : Int) < (n : Int) := by omega
      clear hx hst hsl hbd e' p0 p1 p7
      go_upto_region 6 with fail
      go_quiet (fail)
      go_wp2
      go_roundw
      case rel => exact ⟨k + 1, s + (n1 + n2 + n3 + n4 + n5), by congr 1; omega, by go_num, by omega, b1, Lib.hid HST.out.symm, Lib.hid (HER.out.trans (Ev.drewN _ _))⟩
      case measure => simp [intOf]; omega
    · obtain rfl : k = n := by omega
      have HFIN : Hid (s = sumL partF L) := Lib.hid (by
        have h1 := HSS.out
        rwa [List.take_of_length_le (by rw [HLN.out]; exact Nat.le_refl _)] at h1)
      have HRES : Hid (decide (m.p.size ≤ 600 ∧ m.p.sum partF ≤ 600) = (ok && decide (s ≤ 600))) := Lib.hid (by
        rw [HOK.out]
        by_cases hs : m.p.size ≤ 600
        · rw [HFIN.out, HF.out hs, decide_eq_true hs, Bool.true_and]
          simp [hs]
        · rw [decide_eq_false hs, Bool.false_and]
          simp [hs])
      cases ok
      · have HQ : Hid (decide (m.p.size ≤ 600 ∧ m.p.sum partF ≤ 600) = false) := Lib.hid (by rw [HRES.out]; rfl)
        go_wp2
        go_ret
        exact ⟨by first | (rw [HQ.out]; rfl) | (have h := HQ.out; rw [Bool.decide_and] at h; rw [h]; rfl), (HE.out.trans HE2.out).trans HER.out⟩
      · by_cases hs6 : s ≤ 600
        · have i3 : (s : Int) ≤ 600 := by omega
          have HQ : Hid (decide (m.p.size ≤ 600 ∧ m.p.sum partF ≤ 600) = true) := Lib.hid (by rw [HRES.out, decide_eq_true hs6]; rfl)
          go_wp2
          go_ret
          exact ⟨by first | (rw [HQ.out]; rfl) | (have h := HQ.out; rw [Bool.decide_and] at h; rw [h]; rfl), (HE.out.trans HE2.out).trans HER.out⟩
        · have i3 : ¬ ((s : Int) ≤ 600) := by omega
          have HQ : Hid (decide (m.p.size ≤ 600 ∧ m.p.sum partF ≤ 600) = false) := Lib.hid (by rw [HRES.out, decide_eq_false hs6]; rfl)
          go_wp2
          go_ret
          exact ⟨by first | (rw [HQ.out]; rfl) | (have h := HQ.out; rw [Bool.decide_and] at h; rw [h]; rfl), (HE.out.trans HE2.out).trans HER.out⟩

set_option maxRecDepth 100000 in
set_option maxHeartbeats 8000000 in
theorem pl_Print (m : PM) (b0 : Nat) (w : World) (hT : Tab w) (h : Qx b0 [] w m) (hg : m.p.good) (hsz : (pTree m.p).size ≤ 10000) (hlen : (printS (pTree m.p)).length ≤ 100000) :
    Calls Tryz.prog 11 #[pv m] w fun e w' => e = .returned (.string ⟨(pPrint m.p).toArray⟩) ∧ Ev w w' := by
  have hfit := good_fit _ hg hsz
  have hfine := (backP m.p hg).2.2
  have hpl := parts_len m.p hg
  rw [(sums_add partF (fun _ => 1)).1, size_sum] at hpl
  have HS := Lib.hid (fun w1 (hE : Ev w w1) => pl_isSmall m b0 w1 (h.ev hE) (by omega) (by omega))
  have HSH := Lib.hid (fun w1 (hE : Ev w w1) => pl_show m b0 w1 (hT.ev hE) (h.ev hE) hfit (by omega) (by omega) (fun e => by have := (fine_len _ hfine).1; rw [e] at this; simp at this) (fits_fair _ (fine_fair _ hfine).1))
  have HRD := Lib.hid (fun w1 (hE : Ev w w1) => pl_Read (printS (pTree m.p)) w1 (hT.ev hE) hlen)
  have HSM := Lib.hid (fun m2 (hp : m2.p = m.p) b1 w1 (hE : Ev w w1) (h2 : Qx b1 [] w1 m2) => same_plan m.dep m m2 b0 b1 w1 (Nat.le_refl _) (h.ev hE) h2 hp.symm hg hfit)
  obtain ⟨r1, r2, r3⟩ := pRead_print m.p hg
  obtain ⟨w0, hw0, hE0, hB, _⟩ := bx_pl w m
  obtain ⟨⟨p0, p1, p2, p3, p4, p5, p6, p7⟩, _⟩ := hB.eight
  have HE := Lib.hid hE0
  have HB := Lib.hid hB
  unfold PReadOut at HRD
  unfold Yes at HSM
  unfold pv Sle.v PM.kv at *
  by_cases hsm : m.p.size ≤ 600 ∧ m.p.sum partF ≤ 600
  · rw [decide_eq_true hsm] at HS
    obtain ⟨PS, hPS⟩ : ∃ PS, PS = printS (pTree m.p) := ⟨_, rfl⟩
    by_cases hok : (printS (pTree m.p)).length ≤ 600 ∧ (pTree m.p).deep ≤ 12
    · rw [show pPrint m.p = printS (pTree m.p) by unfold pPrint; rw [if_pos hok]]
      rw [r1 hok.1 hok.2] at HRD
      simp only at HRD
      rw [← hPS] at HRD HSH ⊢
      clear h hB hE0 hsz hlen hT hg hfit hfine hpl r1 r2 r3 hsm hok hPS
      go_enter Tryz.func11, Tryz.ntmps11
      go_wp2_with (first
        | ((with_reducible refine (HS.out _ HE.out).mono ?_); rintro e w1 ⟨rfl, hE1⟩; have E1 := Lib.hid (HE.out.trans hE1); clear p0 p1 p2 p3 p4 p5 p6 p7; obtain ⟨⟨p0, p1, p2, p3, p4, p5, p6, p7⟩, _⟩ := (HB.out.ev hE1).eight; have HB1 := Lib.hid (HB.out.ev hE1); clear hE1)
        | ((with_reducible refine (HSH.out _ E1.out).mono ?_); rintro e w2 ⟨rfl, hE2⟩; have E2 := Lib.hid (E1.out.trans hE2); clear p0 p1 p2 p3 p4 p5 p6 p7; have HB2 := Lib.hid (HB1.out.ev hE2); clear hE2)
        | ((with_reducible refine (HRD.out _ E2.out).mono ?_); rintro e w3 ⟨m2, rfl, hp2, hq2, hE3⟩; simp only []; obtain ⟨w4, hw4, hE4, hB4, _⟩ := bx_pl w3 m2; have E4 := Lib.hid (E2.out.trans (hE3.trans hE4)); have HP2 := Lib.hid hp2; have HQ2 := Lib.hid (hq2.ev hE4); obtain ⟨⟨q0, q1, q2, q3, q4, q5, q6, q7⟩, _⟩ := hB4.eight; obtain ⟨⟨p0, p1, p2, p3, p4, p5, p6, p7⟩, _⟩ := (HB2.out.ev (hE3.trans hE4)).eight; clear hp2 hq2 hE3 hE4 hB4)
        | ((with_reducible refine (HSM.out m2 HP2.out _ _ E4.out HQ2.out).mono ?_); rintro e w5 ⟨rfl, hE5⟩; have E5 := Lib.hid (E4.out.trans hE5)))
      go_ret
      exact ⟨rfl, E5.out⟩
    · rw [show pPrint m.p = [] by unfold pPrint; rw [if_neg hok]]
      have hne : (pRead (printS (pTree m.p))).2.1 ≠ 0 := by
        by_cases hl : (printS (pTree m.p)).length ≤ 600
        · rw [r3 hl (by omega)]; decide
        · rw [r2 (by omega)]; decide
      rw [← hPS] at HRD HSH hne
      generalize pRead PS = R at HRD hne
      obtain ⟨Rp, Rw, Rx⟩ := R
      simp only at HRD hne
      have hneb : (Rw != 0) = true := bne_iff_ne.2 hne
      clear h hB hE0 hsz hlen hT hg hfit hfine hpl r1 r2 r3 hsm hok hPS hne
      go_enter Tryz.func11, Tryz.ntmps11
      go_wp2_with (first
        | ((with_reducible refine (HS.out _ HE.out).mono ?_); rintro e w1 ⟨rfl, hE1⟩; have E1 := Lib.hid (HE.out.trans hE1); clear p0 p1 p2 p3 p4 p5 p6 p7; obtain ⟨⟨p0, p1, p2, p3, p4, p5, p6, p7⟩, _⟩ := (HB.out.ev hE1).eight; clear hE1)
        | ((with_reducible refine (HSH.out _ E1.out).mono ?_); rintro e w2 ⟨rfl, hE2⟩; have E2 := Lib.hid (E1.out.trans hE2); clear p0 p1 p2 p3 p4 p5 p6 p7 hE2)
        | ((with_reducible refine (HRD.out _ E2.out).mono ?_); rintro e w3 ⟨m2, rfl, hp2, hq2, hE3⟩; simp only []; have E3 := Lib.hid (E2.out.trans hE3); clear hp2 hq2 hE3))
      go_ret
      exact ⟨rfl, E3.out.trans (Ev.alloc _ _)⟩
  · rw [decide_eq_false hsm] at HS
    rw [show pPrint m.p = [] by unfold pPrint; rw [if_neg (by omega)]]
    clear h hB hE0 hsz hlen hT hg hfit hfine hpl r1 r2 r3 hsm HRD HSM HSH
    go_enter Tryz.func11, Tryz.ntmps11
    go_wp2_with (first
      | ((with_reducible refine (HS.out _ HE.out).mono ?_); rintro e w1 ⟨rfl, hE1⟩; have E1 := Lib.hid (HE.out.trans hE1); clear hE1))
    go_ret
    exact ⟨rfl, E1.out⟩
end Go.Proofs.YtojbahjebfcmgaaGreatDoor

namespace Go.Proofs.YtojbahjebfcmgaaGreatDoor
open Go.RowKit
set_option linter.unusedVariables false

def tabNames (L : List Pp) : List By := (L.filter fun x => x.2.kind == 1).map fun x => x.2.name
theorem tabF_m (s : By) (x : PM) : tabF s x.p = if x.kind = 1 ∧ x.name = s then 1 else 0 := by
  rw [PM.p_eq]
  rfl
theorem tab_mem (s : By) : ∀ L : List Pp, s ∈ tabNames L ↔ 0 < sumL (tabF s) L
  | [] => by simp [tabNames, sumL]
  | x :: L => by
    have ih := tab_mem s L
    have hs : sumL (tabF s) (x :: L) = tabF s x.2.p + sumL (tabF s) L := by simp [sumL]
    rw [hs, tabF_m]
    unfold tabNames at ih ⊢
    by_cases hk : x.2.kind = 1
    · rw [List.filter_cons, if_pos (by simp [hk]), List.map_cons, List.mem_cons, ih]
      by_cases hn : x.2.name = s
      · rw [if_pos ⟨hk, hn⟩]
        constructor
        · intro _; omega
        · intro _; exact .inl hn.symm
      · rw [if_neg (fun h => hn h.2)]
        constructor
        · rintro (h | h)
          · exact absurd h.symm hn
          · omega
        · intro h; exact .inr (by omega)
    · rw [List.filter_cons, if_neg (by simp [hk]), if_neg (fun h => hk h.1), ih]
      omega
theorem tabNames_snoc (L : List Pp) {j : Nat} {x : Pp} (hx : L[j]? = some x) : tabNames (L.take (j + 1)) = tabNames (L.take j) ++ (if x.2.kind == 1 then [x.2.name] else []) := by
  unfold tabNames
  rw [(drop_at hx).2, List.filter_append, List.map_append]
  congr 1
  cases hk : x.2.kind == 1 <;> simp [hk]
/-- What comes back: names, in order, just those of the plan's tables. -/
def TabOut (p : Pl) (w : World) (e : Ending) (w' : World) : Prop := ∃ (A : Option Addr) (n cap : Nat) (ns : List By), e = .returned (.slice A n cap) ∧ Ss w' A n cap (Lib.compact (sortS ns)) ∧ (∀ s, s ∈ ns ↔ 0 < p.sum (tabF s)) ∧ n ≤ 131072 ∧ Ev w w'

set_option maxRecDepth 100000 in
set_option maxHeartbeats 8000000 in
theorem pl_Tables (m : PM) (b0 : Nat) (w : World) (h : Qx b0 [] w m) (hsz : m.p.size ≤ 131072) :
    Calls Tryz.prog 14 #[pv m] w (TabOut m.p w) := by
  have HW := Lib.hid (fun w1 (hE : Ev w w1) => pl_within m b0 131072 w1 (h.ev hE) (by omega) (by omega) (by omega))
  unfold WiOut at HW
  have hB := Bx.new 27 #[.int .i64 m.kind, .string ⟨m.name.toArray⟩, .slice m.ex.A m.ex.l.length m.ex.cap, .slice m.co.A m.co.l.length m.co.cap, .slice m.lf.A m.lf.l.length m.lf.cap, .slice m.rt.A m.rt.l.length m.rt.cap, .slice m.ag.A m.ag.l.length m.ag.cap, .slice m.A m.kids.length m.cap] w
  have hE0 := Ev.alloc w (.cells #[.int .i64 m.kind, .string ⟨m.name.toArray⟩, .slice m.ex.A m.ex.l.length m.ex.cap, .slice m.co.A m.co.l.length m.co.cap, .slice m.lf.A m.lf.l.length m.lf.cap, .slice m.rt.A m.rt.l.length m.rt.cap, .slice m.ag.A m.ag.l.length m.ag.cap, .slice m.A m.kids.length m.cap] 27)
  obtain ⟨⟨p0, p1, p2, p3, p4, p5, p6, p7⟩, _⟩ := hB.eight
  have HE := Lib.hid hE0
  have HSZ := Lib.hid hsz
  unfold TabOut
  unfold pv Sle.v PM.kv at *
  rw [show ((131072 : Nat) : Int) = 131072 from rfl] at HW
  clear h hB hE0 hsz
  go_enter Tryz.func14, Tryz.ntmps14
  go_wp2_with (first
    | ((with_reducible refine (HW.out _ HE.out).mono ?_); rintro e w1 (⟨A, n, cap, L, _, rfl, hS, hP, hf, _, hE2⟩ | ⟨_, hgt, _⟩); rotate_left; exact absurd HSZ.out (by omega); simp only []; have HL := Lib.hid hS; have HP := Lib.hid hP; have HF := Lib.hid hf; have hnl := Lib.hid hS.len; have HN : Hid (n ≤ 131072) := Lib.hid (by rw [← hS.len, ← sumL_ones, hf, sum_one]; exact HSZ.out); have hcp := hS.le; have hcm := hS.max; have HE1 := Lib.hid (HE.out.trans hE2); clear hS hP hf hE2 p0 p1 p2 p3 p4 p5 p6 p7))
  have hn13 := HN.out
  go_loopw [5, 15] (fun nv iv wr => ∃ (A1 : Option Addr) (n1 cap1 j : Nat) (ns : List By), nv = .slice A1 n1 cap1 ∧ iv = .int .i64 (j : Int) ∧ j ≤ n ∧ Hid (n1 = ns.length ∧ ns.length ≤ j) ∧ Hid (UsSt w1 (.slice A1 n1 cap1) ns wr) ∧ Hid (ns = tabNames (L.take j))) (fun _ iv _ => n - (intOf iv).toNat)
  case atStart => exact ⟨none, 0, 0, 0, [], rfl, rfl, Nat.zero_le _, Lib.hid ⟨rfl, Nat.le_refl _⟩, Lib.hid ⟨Ow.nil_ _, Ev.refl _⟩, Lib.hid rfl⟩
  case round =>
    obtain ⟨A1, n1, cap1, j, ns, rfl, rfl, hj, HNN, HS, HR⟩ := hrel
    by_cases hlt : j < n
    · obtain ⟨x, hx⟩ := HL.out.at hlt
      obtain ⟨b, off, rfl, hb, _⟩ := (HL.out.ev HS.out.ev).rd (by omega)
      have c0 := pp_cell (HL.out.ev HS.out.ev) hx
      obtain ⟨b', off', e', hb', p0, p1, p2, p3, p4, p5, p6, p7⟩ := (HP.out x (List.mem_of_getElem? hx)).ev HS.out.ev
      rw [e'] at c0
      have HTK : Hid (tabNames (L.take (j + 1)) = ns ++ (if x.2.kind == 1 then [x.2.name] else [])) := Lib.hid (by rw [tabNames_snoc L hx, ← HR.out])
      have i1 : (0 : Int) ≤ (j : Int) := by omega
      have i2 : (j : Int) < (n : Int) := by omega
      clear hx e' p2 p3 p4 p5 p6 p7
      by_cases hk : x.2.kind = 1
      · have hkb : (x.2.kind == 1) = true := beq_iff_eq.2 hk
        rw [hkb] at HTK
        simp only [if_true] at HTK
        have hns := Lib.hid HNN.out.2
        rw [hk] at p0
        clear hk hkb
        go_wp2_with (first
          | ((show wpList _ _ _ (⟨some 30, _, _, _, _, _⟩ :: _) _ _); refine wpList_append_ow (o := ⟨some 30, _, _, _, _, _⟩) rfl 23 (.tmp 24) (.tmp 29) rfl encS1 Tryz.underlying23 Tryz.infoStr rfl rfl (HS.out.own.ev (Ev.alloc _ _)) _ 1 1 [x.2.name] rfl (Sl.one (et := 9) encS1 _ x.2.name _ rfl) (by have := hns.out; simp; omega) (by have := hns.out; simp; omega) (HS.out.ev.trans (Ev.alloc _ _)).size ?_; intro v2 w2 hA2; have E2 : Ev w1 w2 := ((But.of_ev (HS.out.ev.trans (Ev.alloc _ _))).then hA2.2.1).ev (fun k hk => (HS.out.own.lt (mem_foot.1 hk)).1); obtain ⟨A2, cap2, rfl, _, hAd2⟩ := hA2.1.form encS1; clear hAd2; generalize hnn : (ns ++ [x.2.name]).length = nn at hA2 ⊢; have HNN2 := Lib.hid hnn.symm; clear hnn))
        go_roundw
        case rel => exact ⟨A2, nn, cap2, j + 1, ns ++ [x.2.name], rfl, by go_num, by omega, Lib.hid ⟨HNN2.out, by rw [List.length_append]; have := hns.out; simp; omega⟩, Lib.hid ⟨hA2.1, E2⟩, Lib.hid HTK.out.symm⟩
        case measure => simp [intOf]; omega
      · have hkb : (x.2.kind == 1) = false := beq_eq_false_iff_ne.2 hk
        rw [hkb] at HTK
        simp only [Bool.false_eq_true, if_false, List.append_nil] at HTK
        go_wp2
        go_roundw
        case rel => exact ⟨A1, n1, cap1, j + 1, ns, rfl, by go_num, by omega, Lib.hid ⟨HNN.out.1, Nat.le_succ_of_le HNN.out.2⟩, HS, Lib.hid HTK.out.symm⟩
        case measure => simp [intOf]; omega
    · have hjn : j = n := by omega
      have i2 : ¬ ((j : Int) < (n : Int)) := by omega
      have HAL : Hid (∀ s, s ∈ ns ↔ 0 < m.p.sum (tabF s)) := Lib.hid fun s => by
        rw [HR.out, hjn, List.take_of_length_le (by rw [hnl.out]; exact Nat.le_refl _), tab_mem, HF.out]
      have HL16 : Hid (ns.length ≤ 131072) := Lib.hid (by have := HNN.out.2; omega)
      have HN1 := Lib.hid HNN.out.1
      clear hjn HR HNN
      by_cases hz : ns = []
      · subst hz
        obtain rfl : n1 = 0 := HN1.out
        have HSN := Lib.hid (fun w5 => Tryz.slices_Sort_string_none A1 cap1 w5)
        have HCN := Lib.hid (fun w5 => Tryz.slices_Compact_string_empty A1 cap1 w5)
        have HF0 : Hid (Ss wr A1 0 cap1 []) := Lib.hid (by
          obtain ⟨A2, cap2, hv, hSl, hAd⟩ := HS.out.own.form encS1
          injection hv with h1 h2 h3
          subst h1; subst h3
          exact hSl)
        go_wp2_with (first
          | ((with_reducible refine (HSN.out _).mono ?_); rintro e w3 ⟨rfl, rfl⟩)
          | ((with_reducible refine (HCN.out _).mono ?_); rintro e w4 ⟨rfl, rfl⟩))
        go_ret
        exact ⟨A1, 0, cap1, [], rfl, by rw [show Lib.compact (sortS []) = [] by unfold sortS; simp [Lib.compact, Lib.compactUpTo]]; exact HF0.out, HAL.out, Nat.zero_le _, HE1.out.trans HS.out.ev⟩
      · have hgg : ∃ g, A1 = some ⟨g, 0, none⟩ := by
          rcases HS.out.own.2 with ⟨_, h2⟩ | ⟨g, cap, cur, e, _⟩
          · exact absurd (List.eq_nil_of_length_eq_zero h2) hz
          · injection e with e1
            exact ⟨g, e1⟩
        obtain ⟨g, rfl⟩ := hgg
        have hsl : (sortS ns).length = ns.length := by unfold sortS; simp
        have hsl2 : (sortS ns).length ≤ 131072 := by rw [hsl]; exact HL16.out
        have HSO := Lib.hid (ow_sort HS.out.own (by have := HL16.out; omega))
        have HCO := Lib.hid (fun w5 (h5 : Ow 9 1 sc w1.heap.size w5 (.slice (some ⟨g, 0, none⟩) n1 cap1) (sortS ns)) => ow_compact h5 (by omega))
        have HGL := Lib.hid (HS.out.own.lt (g := g) rfl).1
        have HCL : Hid ((Lib.compact (sortS ns)).length ≤ 131072) := Lib.hid (Nat.le_trans (compact_le (sortS ns)) hsl2)
        clear hsl hsl2
        generalize hcc : (Lib.compact (sortS ns)).length = cc at *
        have HCC := Lib.hid hcc
        clear hz hcc
        go_wp2_with (first
          | ((with_reducible refine (HSO.out).mono ?_); rintro e w3 ⟨rfl, hO3, hB3⟩; have HO3 := Lib.hid hO3; have HB3 := Lib.hid hB3; clear hO3 hB3)
          | ((with_reducible refine (HCO.out _ HO3.out).mono ?_); rintro e w4 ⟨rfl, hO4, hB4⟩; have HO4 := Lib.hid hO4; have HB4 := Lib.hid hB4; clear hO4 hB4))
        go_ret
        refine ⟨some ⟨g, 0, none⟩, cc, cap1, ns, rfl, ?_, HAL.out, HCL.out, HE1.out.trans (((But.of_ev HS.out.ev).then (HB3.out.then HB4.out)).ev fun k hk => ?_)⟩
        · obtain ⟨A2, cap2, hv, hSl, _⟩ := HO4.out.form encS1
          injection hv with h1 h2 h3
          subst h1; subst h3
          rw [HCC.out] at hSl
          exact hSl
        · simp at hk
          subst hk
          exact HGL.out
end Go.Proofs.YtojbahjebfcmgaaGreatDoor

namespace Go.Proofs.YtojbahjebfcmgaaGreatDoor
open Go.RowKit
set_option linter.unusedVariables false

theorem WrP.print {p : Pl} (h : WrP p) : pPrint p = printS (pTree p) := by unfold pPrint; rw [if_pos ⟨h.len6, h.deep⟩]
theorem print_at (p : Pl) (h : WrP p) (PS : By) (hP : PS = printS (pTree p)) (m : PM) (w : World) (hT : Tab w) (hm : m.p = p) (hL : Qx 0 [] w m) :
    Calls Tryz.prog 11 #[.agg #[.int .i64 m.kind, .string ⟨m.name.toArray⟩, .slice m.ex.A m.ex.l.length m.ex.cap, .slice m.co.A m.co.l.length m.co.cap, .slice m.lf.A m.lf.l.length m.lf.cap, .slice m.rt.A m.rt.l.length m.rt.cap, .slice m.ag.A m.ag.l.length m.ag.cap, .slice m.A m.kids.length m.cap]] w fun e w' => e = .returned (.string ⟨PS.toArray⟩) ∧ Ev w w' := by
  subst hm
  have h1 := pl_Print m 0 w hT hL h.wr.good (by have := h.wr.size; omega) (by have := h.len6; omega)
  rw [h.print, ← hP] at h1
  exact h1
theorem size_at (p : Pl) (n : Nat) (hn : p.size = n) (hs : n ≤ 131072) (m : PM) (w : World) (hm : m.p = p) (hL : Qx 0 [] w m) :
    Calls Tryz.prog 12 #[.agg #[.int .i64 m.kind, .string ⟨m.name.toArray⟩, .slice m.ex.A m.ex.l.length m.ex.cap, .slice m.co.A m.co.l.length m.co.cap, .slice m.lf.A m.lf.l.length m.lf.cap, .slice m.rt.A m.rt.l.length m.rt.cap, .slice m.ag.A m.ag.l.length m.ag.cap, .slice m.A m.kids.length m.cap]] w fun e w' => e = .returned (.int .i64 (n : Int)) ∧ Ev w w' := by
  subst hm
  subst hn
  exact pl_Size m 0 w hL hs
theorem WrP.size_le {p : Pl} (h : WrP p) : p.size ≤ 600 := by have := wr_small h; omega
theorem WrP.ne {p : Pl} (h : WrP p) : 1 ≤ (printS (pTree p)).length := (fine_len _ (backP p h.wr.good).2.2).1

set_option maxRecDepth 100000 in
set_option maxHeartbeats 4000000 in
theorem known9_any (w : World) (hT : Tab w) :
    Calls Tryz.prog 10 #[] w fun e w' => e = .returned (.bool true) ∧ Ev w w' := by
  have HR1 : Hid (∀ w1, Ev w w1 → Calls Tryz.prog 8 #[.string ⟨#[40, 32, 102, 105, 108, 116, 101, 114, 32, 40, 108, 116, 32, 97, 32, 53, 41, 40, 116, 97, 98, 108, 101, 32, 116, 41, 32, 41]⟩] w1 (PReadOut (ptP, 0, 0) w1)) := Lib.hid fun w1 hE => by
    have h := pl_Read pt1 w1 (hT.ev hE) (by decide)
    rw [pt1_read] at h
    exact h
  have HR2 : Hid (∀ w1, Ev w w1 → Calls Tryz.prog 8 #[.string ⟨#[40, 116, 97, 98, 108, 101, 32, 53, 41]⟩] w1 (PReadOut (pZero, 12, 0) w1)) := Lib.hid fun w1 hE => by
    have h := pl_Read pt2 w1 (hT.ev hE) (by decide)
    rw [pt2_read] at h
    exact h
  have HP : Hid (∀ (m : PM) w1, Ev w w1 → m.p = ptP → Qx 0 [] w1 m → Calls Tryz.prog 11 #[.agg #[.int .i64 m.kind, .string ⟨m.name.toArray⟩, .slice m.ex.A m.ex.l.length m.ex.cap, .slice m.co.A m.co.l.length m.co.cap, .slice m.lf.A m.lf.l.length m.lf.cap, .slice m.rt.A m.rt.l.length m.rt.cap, .slice m.ag.A m.ag.l.length m.ag.cap, .slice m.A m.kids.length m.cap]] w1 fun e w' => e = .returned (.string ⟨#[40, 102, 105, 108, 116, 101, 114, 32, 40, 108, 116, 32, 97, 32, 53, 41, 32, 40, 116, 97, 98, 108, 101, 32, 116, 41, 41]⟩) ∧ Ev w1 w') := Lib.hid fun m w1 hE hm hL => print_at ptP ptP_wr pt3 pt3_print.symm m w1 (hT.ev hE) hm hL
  have HS : Hid (∀ (m : PM) w1, m.p = ptP → Qx 0 [] w1 m → Calls Tryz.prog 12 #[.agg #[.int .i64 m.kind, .string ⟨m.name.toArray⟩, .slice m.ex.A m.ex.l.length m.ex.cap, .slice m.co.A m.co.l.length m.co.cap, .slice m.lf.A m.lf.l.length m.lf.cap, .slice m.rt.A m.rt.l.length m.rt.cap, .slice m.ag.A m.ag.l.length m.ag.cap, .slice m.A m.kids.length m.cap]] w1 fun e w' => e = .returned (.int .i64 2) ∧ Ev w1 w') := Lib.hid fun m w1 hm hL => size_at ptP 2 ptP_size (by omega) m w1 hm hL
  have HE0 := Lib.hid (Ev.refl w)
  unfold PReadOut at HR1 HR2
  simp only at HR1 HR2
  clear hT
  go_enter Tryz.func10, Tryz.ntmps10
  go_wp2_with (first
    | ((with_reducible refine (HR1.out _ HE0.out).mono ?_); rintro r w1 ⟨m, rfl, hmp, hmq, hE1⟩; simp only []; obtain ⟨w2, hw2, hE2, hB2, _⟩ := bx_pl w1 m; have E2 := Lib.hid (hE1.trans hE2); have HMP := Lib.hid hmp; have HMQ := Lib.hid ((hmq.ev hE2).low (Nat.zero_le _)); have HBM := Lib.hid hB2; clear hmp hmq hE1 hE2 hB2)
    | ((with_reducible refine (HR2.out _ E2.out).mono ?_); rintro r w3 ⟨q, rfl, hqp, hqq, hE3⟩; simp only []; obtain ⟨w4, hw4, hE4, hB4, _⟩ := bx_pl w3 q; have E4 := Lib.hid (hE3.trans hE4); obtain ⟨⟨p0, p1, p2, p3, p4, p5, p6, p7⟩, _⟩ := (HBM.out.ev E4.out).eight; clear hqp hqq hE3 hE4 hB4)
    | ((with_reducible refine (HP.out m _ (E2.out.trans E4.out) HMP.out (HMQ.out.ev E4.out)).mono ?_); rintro r w5 ⟨rfl, hE5⟩; have E5 := Lib.hid hE5; clear hE5 p0 p1 p2 p3 p4 p5 p6 p7; obtain ⟨⟨p0, p1, p2, p3, p4, p5, p6, p7⟩, _⟩ := (HBM.out.ev (E4.out.trans E5.out)).eight)
    | ((with_reducible refine (HS.out m _ HMP.out (HMQ.out.ev (E4.out.trans E5.out))).mono ?_); rintro r w6 ⟨rfl, hE6⟩))
  go_ret
  exact ⟨rfl, ((E2.out.trans E4.out).trans E5.out).trans hE6⟩
/-- The names of a plan's tables: sorted, each once. -/
def TabF (p : Pl) (v : Value) (w : World) : Prop := ∃ (A : Option Addr) (n cap : Nat) (ns : List By), v = .slice A n cap ∧ Ss w A n cap (Lib.compact (sortS ns)) ∧ ∀ s, s ∈ ns ↔ 0 < p.sum (tabF s)
theorem TabF.mono (p : Pl) : Mono (TabF p) := fun v w w' hE ⟨A, n, cap, ns, e, h, hs⟩ => ⟨A, n, cap, ns, e, h.ev hE, hs⟩
theorem tabs_at (p : Pl) (hs : p.size ≤ 131072) (m : PM) (w : World) (hm : m.p = p) (hL : Qx 0 [] w m) :
    Calls Tryz.prog 14 #[pv m] w fun e w' => ∃ v, e = .returned v ∧ Ev w w' ∧ TabF p v w' := by
  subst hm
  refine (pl_Tables m 0 w hL hs).mono ?_
  rintro e w' ⟨A, n, cap, ns, rfl, h1, h2, _, hE⟩
  exact ⟨_, rfl, hE, A, n, cap, ns, rfl, h1, h2⟩
/-- Texts of two plans' tables, if the tables are the same. -/
theorem tabs_same {p q : Pl} (h : ∀ s, p.sum (tabF s) = q.sum (tabF s)) {u v : Value} {w : World} (hu : TabF p u w) (hv : TabF q v w) :
    Calls Tryz.prog 13 #[u, v] w fun e w' => e = .returned (.bool true) ∧ Ev w w' := by
  obtain ⟨A, n, cap, ns, rfl, h1, h2⟩ := hu
  obtain ⟨B, m, cap', ns', rfl, h3, h4⟩ := hv
  rw [compact_sort_same (l := ns) (m := ns') fun x => by rw [h2, h4, h]] at h1
  exact keep_texts w h1 h3
theorem take_size {p : Pl} {l : List PM} (hp : p.kids = l.map PM.p) {k : Nat} {x : PM} (hx : l[k]? = some x) : ((l.take (k + 1)).map fun y => y.p.size).sum = ((l.take k).map fun y => y.p.size).sum + x.p.size := by
  obtain ⟨hk, e⟩ := List.getElem?_eq_some_iff.1 hx
  rw [List.take_succ_eq_append_getElem hk, e]
  simp
theorem run_add_i64 {T : TypeId} {ρ : Operand → Value} {o : Oper} {x y : Operand} {a b : Int} (ho : o.op = .binOp .add T x y T) (hx : ρ x = .int .i64 a) (hy : ρ y = .int .i64 b) (h1 : 0 ≤ a + b) (h2 : a + b ≤ 1000000000) (w : World) :
    (execOp ρ o).run Tryz.prog w = .ok (.value (.int .i64 (a + b))) w := by
  unfold execOp
  rw [ho]
  simp [hx, hy, go_sem]
  exact IntWalk.i64_in _ (by omega)

end Go.Proofs.YtojbahjebfcmgaaGreatDoor
