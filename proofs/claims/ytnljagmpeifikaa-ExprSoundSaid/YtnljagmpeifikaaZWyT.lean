/-
  The walk of ExprSound.
-/
import Derived.Test.YtnljagmpeifikaaZ21T
import Derived.Test.YtnljagmpeifikaaZWxT
namespace Go.Proofs.Ytnljagmpeifikaa
open Go.RowKit
set_option linter.unusedVariables false

theorem Ss.cell {w : World} {A : Option Addr} {n cap : Nat} {l : List By} (h : Ss w A n cap l) {i : Nat} {x : By} (hx : l[i]? = some x) : ∃ b off, A = some ⟨b, off, none⟩ ∧ b < w.heap.size ∧ w.cell? ⟨b, off + i, none⟩ = some (.string ⟨x.toArray⟩) := by
  have hi := (List.getElem?_eq_some_iff.1 hx).1
  have hl := h.len
  obtain ⟨b, off, e, hlt, hc⟩ := h.rd (by omega)
  have := hc i x hx 0 _ rfl
  rw [Nat.mul_one, Nat.add_zero] at this
  exact ⟨b, off, e, hlt, this⟩
/-- Column i of t, where its name lies. -/
def ColAt (i : Nat) (v : Value) (w : World) : Prop := ∃ g, v = .pointer (some ⟨g, i * 2, none⟩) ∧ Cs w (some ⟨g, 0, none⟩) 3 3 tcols
theorem ColAt.mono (i : Nat) : Mono (ColAt i) := fun v w w' hE h => by
  obtain ⟨g, e, hC⟩ := h
  exact ⟨g, e, hC.ev hE⟩
theorem col_name0 {w : World} {g : Nat} (h : Cs w (some ⟨g, 0, none⟩) 3 3 tcols) : w.cell? ⟨g, 0, none⟩ = some (.string ⟨#[97]⟩) := by
  obtain ⟨b, off, e, hlt, hc⟩ := h.rd (by omega)
  injection e with e
  injection e with e1 e2 _
  subst e1; subst e2
  exact hc 0 _ rfl 0 _ rfl
theorem col_name1 {w : World} {g : Nat} (h : Cs w (some ⟨g, 0, none⟩) 3 3 tcols) : w.cell? ⟨g, 2, none⟩ = some (.string ⟨#[98]⟩) := by
  obtain ⟨b, off, e, hlt, hc⟩ := h.rd (by omega)
  injection e with e
  injection e with e1 e2 _
  subst e1; subst e2
  exact hc 1 _ rfl 0 _ rfl
def rowc (x0 x1 : Int) (t1 : ByteArray) : List V := [numV x0, numV x1, (2, 0, t1)]
theorem row_vs {w : World} {g : Nat} {x0 x1 : Int} {t1 : ByteArray} (h : Bx 25 g #[.int .i64 1, .int .i64 x0, .string ⟨#[]⟩, .int .i64 1, .int .i64 x1, .string ⟨#[]⟩, .int .i64 2, .int .i64 0, .string t1] w) : Vs w (some ⟨g, 0, none⟩) 3 3 (rowc x0 x1 t1) :=
  ⟨rfl, Nat.le_refl _, by omega, by simp, fun _ => ⟨g, 0, rfl, h.lt, fun i x hx j u hu => by
    rw [Nat.zero_add, h.cell]
    have := cl_get encV (rowc x0 x1 t1) i x hx j u hu
    rw [← List.getElem?_toArray] at this
    exact this⟩⟩
theorem row_cells {w : World} {g : Nat} {x0 x1 : Int} {t1 : ByteArray} (h : Bx 25 g #[.int .i64 1, .int .i64 x0, .string ⟨#[]⟩, .int .i64 1, .int .i64 x1, .string ⟨#[]⟩, .int .i64 2, .int .i64 0, .string t1] w) : w.cell? ⟨g, 0, none⟩ = some (.int .i64 1) ∧ w.cell? ⟨g, 1, none⟩ = some (.int .i64 x0) ∧ w.cell? ⟨g, 2, none⟩ = some (.string ⟨#[]⟩) ∧ w.cell? ⟨g, 3, none⟩ = some (.int .i64 1) ∧ w.cell? ⟨g, 4, none⟩ = some (.int .i64 x1) ∧ w.cell? ⟨g, 5, none⟩ = some (.string ⟨#[]⟩) ∧
    w.frozen? ⟨g, 0, none⟩ = false ∧ w.frozen? ⟨g, 1, none⟩ = false ∧ w.frozen? ⟨g, 2, none⟩ = false ∧ w.frozen? ⟨g, 3, none⟩ = false ∧ w.frozen? ⟨g, 4, none⟩ = false ∧ w.frozen? ⟨g, 5, none⟩ = false :=
  ⟨h.cell 0, h.cell 1, h.cell 2, h.cell 3, h.cell 4, h.cell 5, h.frozen 0, h.frozen 1, h.frozen 2, h.frozen 3, h.frozen 4, h.frozen 5⟩
theorem row_put0_but (g : Nat) (c : Int) (w : World) : But [g] w (((w.setCell ⟨g, 0, none⟩ (.int .i64 1)).setCell ⟨g, 1, none⟩ (.int .i64 c)).setCell ⟨g, 2, none⟩ (.string ⟨#[]⟩)) := ((But.setCell ⟨g, 0, none⟩ _ (by simp)).then (But.setCell ⟨g, 1, none⟩ _ (by simp))).then (But.setCell ⟨g, 2, none⟩ _ (by simp))
theorem row_put0 {w : World} {g : Nat} {x0 x1 : Int} {t1 : ByteArray} (h : Bx 25 g #[.int .i64 1, .int .i64 x0, .string ⟨#[]⟩, .int .i64 1, .int .i64 x1, .string ⟨#[]⟩, .int .i64 2, .int .i64 0, .string t1] w) (c : Int) : Bx 25 g #[.int .i64 1, .int .i64 c, .string ⟨#[]⟩, .int .i64 1, .int .i64 x1, .string ⟨#[]⟩, .int .i64 2, .int .i64 0, .string t1] (((w.setCell ⟨g, 0, none⟩ (.int .i64 1)).setCell ⟨g, 1, none⟩ (.int .i64 c)).setCell ⟨g, 2, none⟩ (.string ⟨#[]⟩)) := by
  have := ((h.set 0 (.int .i64 1)).set 1 (.int .i64 c)).set 2 (.string ⟨#[]⟩)
  simpa using this
theorem row_put1_but (g : Nat) (c : Int) (w : World) : But [g] w (((w.setCell ⟨g, 3, none⟩ (.int .i64 1)).setCell ⟨g, 4, none⟩ (.int .i64 c)).setCell ⟨g, 5, none⟩ (.string ⟨#[]⟩)) := ((But.setCell ⟨g, 3, none⟩ _ (by simp)).then (But.setCell ⟨g, 4, none⟩ _ (by simp))).then (But.setCell ⟨g, 5, none⟩ _ (by simp))
theorem row_put1 {w : World} {g : Nat} {x0 x1 : Int} {t1 : ByteArray} (h : Bx 25 g #[.int .i64 1, .int .i64 x0, .string ⟨#[]⟩, .int .i64 1, .int .i64 x1, .string ⟨#[]⟩, .int .i64 2, .int .i64 0, .string t1] w) (c : Int) : Bx 25 g #[.int .i64 1, .int .i64 x0, .string ⟨#[]⟩, .int .i64 1, .int .i64 c, .string ⟨#[]⟩, .int .i64 2, .int .i64 0, .string t1] (((w.setCell ⟨g, 3, none⟩ (.int .i64 1)).setCell ⟨g, 4, none⟩ (.int .i64 c)).setCell ⟨g, 5, none⟩ (.string ⟨#[]⟩)) := by
  have := ((h.set 3 (.int .i64 1)).set 4 (.int .i64 c)).set 5 (.string ⟨#[]⟩)
  simpa using this
/-- What stays in the loops. -/
structure SdS (w : World) (gx g1 gr : Nat) (x : M) (V1 : Array Value) (UA : Option Addr) (un ucap : Nat) (U : List By) (x0 x1 : Int) (t1 : ByteArray) (wr : World) : Prop where
  bx : Bx 39 gx #[.int .i64 x.kind, .string ⟨x.s.toArray⟩, .int .i64 x.n, .slice x.A x.kids.length x.cap] wr
  lx : Lx 0 [gr] wr x
  b1 : Bx 25 g1 V1 wr
  u : Ss wr UA un ucap U
  row : Bx 25 gr #[.int .i64 1, .int .i64 x0, .string ⟨#[]⟩, .int .i64 1, .int .i64 x1, .string ⟨#[]⟩, .int .i64 2, .int .i64 0, .string t1] wr
  all : Ev w wr
theorem SdS.ev {w : World} {gx g1 gr : Nat} {x : M} {V1 : Array Value} {UA : Option Addr} {un ucap : Nat} {U : List By} {x0 x1 : Int} {t1 : ByteArray} {wr ws : World} (h : SdS w gx g1 gr x V1 UA un ucap U x0 x1 t1 wr) (hE : Ev wr ws) : SdS w gx g1 gr x V1 UA un ucap U x0 x1 t1 ws :=
  ⟨h.bx.ev hE, h.lx.ev hE, h.b1.ev hE, h.u.ev hE, h.row.ev hE, h.all.trans hE⟩
theorem SdS.put {w : World} {gx g1 gr : Nat} {x : M} {V1 : Array Value} {UA : Option Addr} {un ucap : Nat} {U : List By} {x0 x1 y0 y1 : Int} {t1 : ByteArray} {wr ws : World} (h : SdS w gx g1 gr x V1 UA un ucap U x0 x1 t1 wr) (hb : But [gr] wr ws) (hr : Bx 25 gr #[.int .i64 1, .int .i64 y0, .string ⟨#[]⟩, .int .i64 1, .int .i64 y1, .string ⟨#[]⟩, .int .i64 2, .int .i64 0, .string t1] ws)
    (n1 : gx ≠ gr) (n2 : g1 ≠ gr) (n3 : ∀ ad, UA = some ad → ad.block ≠ gr) (n4 : w.heap.size ≤ gr) : SdS w gx g1 gr x V1 UA un ucap U y0 y1 t1 ws :=
  ⟨h.bx.but hb (by simp; exact n1), h.lx.move hb (fun k hk => .inl hk), h.b1.but hb (by simp; exact n2), h.u.but hb (fun ad e => by simp; exact n3 ad e), hr, h.all.box hb n4⟩
theorem tcols_find (s : By) (i : Nat) (h : findC tcols (bstr s) = some i) : (i = 0 ∧ s = [97]) ∨ (i = 1 ∧ s = [98]) ∨ i = 2 := by
  unfold findC at h
  rw [List.findIdx?_eq_some_iff_getElem] at h
  obtain ⟨hi, hn, _⟩ := h
  have hb : (bstr s).toList = s := by simp [bstr]
  unfold named at hn
  rw [hb] at hn
  match i, hi with
  | 0, _ => left; exact ⟨rfl, by simpa [tcols] using (beq_iff_eq.1 hn).symm⟩
  | 1, _ => right; left; exact ⟨rfl, by simpa [tcols] using (beq_iff_eq.1 hn).symm⟩
  | 2, _ => right; right; rfl
/-- A row that differs at most where nobody looks. -/
theorem sound_agree {T0 : T} {ns : List By} (hall : ∀ p : By → Bool, ns.all p = T0.every (usedB p)) {a b c x0 x1 : Int} {t1 : ByteArray} (h0 : x0 = if (Lib.compact (sortS ns)).any (· == [97]) = false then c else a) (h1 : x1 = if (Lib.compact (sortS ns)).any (· == [98]) = false then c else b) :
    xEval tcols (rowc a b t1) T0 = xEval tcols (rowc x0 x1 t1) T0 := by
  refine xEval_agree tcols _ _ T0 ?_
  have hmem : ∀ n ∈ ns, n ∈ Lib.compact (sortS ns) := fun n hn => by
    rw [mem_compact]
    unfold sortS
    exact List.mem_mergeSort.2 hn
  have hp : ns.all (fun n => (!(n == [97]) || decide (x0 = a)) && (!(n == [98]) || decide (x1 = b))) = true := by
    rw [List.all_eq_true]
    intro n hn
    have hm := hmem n hn
    rw [Bool.and_eq_true]
    constructor
    · by_cases e : n = [97]
      · subst e
        have : (Lib.compact (sortS ns)).any (· == [97]) = true := List.any_eq_true.2 ⟨_, hm, by simp⟩
        rw [this] at h0
        simp [h0]
      · simp [e]
    · by_cases e : n = [98]
      · subst e
        have : (Lib.compact (sortS ns)).any (· == [98]) = true := List.any_eq_true.2 ⟨_, hm, by simp⟩
        rw [this] at h1
        simp [h1]
      · simp [e]
  rw [hall] at hp
  refine every_imp (fun e he => ?_) T0 hp
  unfold usedB at he
  unfold agreeB
  cases hk : e.kind == 1
  · rfl
  · rw [hk] at he
    simp only [Bool.not_true, Bool.false_or] at he ⊢
    rw [Bool.and_eq_true] at he
    cases hf : findC tcols (bstr e.s) with
    | none => rfl
    | some i =>
      simp only
      rcases tcols_find e.s i hf with ⟨rfl, hs⟩ | ⟨rfl, hs⟩ | rfl
      · have h2 := he.1
        rw [hs] at h2
        have h3 : x0 = a := by simpa using h2
        simp [rowc, h3]
      · have h2 := he.2
        rw [hs] at h2
        have h3 : x1 = b := by simpa using h2
        simp [rowc, h3]
      · simp [rowc]
theorem rowc_fits {a b : Int} {t1 : ByteArray} (h : t1.size ≤ 40) : fitsL tcols (rowc a b t1) = true := by simp [fitsL, tcols, rowc, numV, rightV, h]
theorem rowc_fair {a b : Int} {t1 : ByteArray} (ha : i64R a) (hb : i64R b) (h : t1.size ≤ 40) : ∀ y ∈ rowc a b t1, fairV y := by
  intro y hy
  simp only [rowc, List.mem_cons, List.not_mem_nil, or_false] at hy
  rcases hy with rfl | rfl | rfl
  · exact fair_num ha
  · exact fair_num hb
  · exact fair_str (by omega)

set_option maxRecDepth 100000 in
set_option maxHeartbeats 64000000 in
theorem sound_walk (s0 : ByteArray) (a b c : Int) (t0 : ByteArray) (w : World) (u0 : s0.size ≤ maxLen) (ha : i64R a) (hb : i64R b) (hc : i64R c) (u3 : t0.size ≤ maxLen) :
    Calls Try.prog 5 #[.string s0, .int .i64 a, .int .i64 b, .int .i64 c, .string t0] w fun e w' => e = .returned (.bool true) ∧ Ev w w' := by
  have hmix : Try.prog.follows .mixedOrders = true := by kernel_rfl
  unfold maxLen at u0 u3
  have HA := Lib.hid ha
  have HB := Lib.hid hb
  have HCC := Lib.hid hc
  clear ha hb hc
  go_enter Try.func5, Try.ntmps5
  go_upto_if 30 with fail
  go_cut [0] (fun v wx => ∃ s1 : ByteArray, v = .string s1 ∧ s1.size ≤ 600 ∧ w = wx)
  case first =>
    by_cases hs : (600 : Int) < (s0.size : Int)
    · have hz : (s0.extract 0 600).size = 600 := by
        have h1 : (s0.extract 0 600).data.toList.length = (s0.extract 0 600).size := by rw [Array.length_toList]; rfl
        have h2 : s0.data.toList.length = s0.size := by rw [Array.length_toList]; rfl
        rw [← h1, Lib.extract_eq, List.drop_zero, List.length_take, h2]
        omega
      have HZ := Lib.hid hz
      have i1 : (600 : Int) ≤ (s0.size : Int) := by omega
      clear hz
      go_wp2_with fail
      go_meet
      exact ⟨s0.extract 0 600, rfl, by rw [HZ.out]; exact Nat.le_refl _, rfl⟩
    · go_wp2_with fail
      go_meet
      exact ⟨s0, rfl, by omega, rfl⟩
  case rest =>
  obtain ⟨s1, rfl, hs1, rfl⟩ := hcut
  go_upto_if 35 with fail
  go_cut [4] (fun v wx => ∃ s1 : ByteArray, v = .string s1 ∧ s1.size ≤ 40 ∧ w = wx)
  case first =>
    by_cases hs : (40 : Int) < (t0.size : Int)
    · have hz : (t0.extract 0 40).size = 40 := by
        have h1 : (t0.extract 0 40).data.toList.length = (t0.extract 0 40).size := by rw [Array.length_toList]; rfl
        have h2 : t0.data.toList.length = t0.size := by rw [Array.length_toList]; rfl
        rw [← h1, Lib.extract_eq, List.drop_zero, List.length_take, h2]
        omega
      have HZ := Lib.hid hz
      have i1 : (40 : Int) ≤ (t0.size : Int) := by omega
      clear hz
      go_wp2_with fail
      go_meet
      exact ⟨t0.extract 0 40, rfl, by rw [HZ.out]; exact Nat.le_refl _, rfl⟩
    · go_wp2_with fail
      go_meet
      exact ⟨t0, rfl, by omega, rfl⟩
  case rest =>
  obtain ⟨t1, rfl, ht1, rfl⟩ := hcut
  clear u0 u3
  have hsm := rf_small s1.data.toList
  have htx := rf_texts s1.data.toList
  have HR := fun w1 => rf_read s1 w1 (by omega)
  have HKn := Lib.hid (fun w1 => known8_any w1)
  unfold ReadOut at HR
  generalize rfRead s1.data.toList = R at *
  obtain ⟨Rt, Rw, Rp⟩ := R
  simp only at HR hsm htx
  by_cases hw : Rw = 0
  · subst hw
    have HR := Lib.hid HR
    obtain ⟨hfair, hsz⟩ := hsm
    have HO := Lib.hid (fun (m : M) w0 w1 (hm : m.t = Rt) (hL : Lies w0 [] w1 m) => by
      have h := law8_out m.dep m w0 w1 (Nat.le_refl _) hL (by rw [hm]; omega)
      unfold mv M.kv at h
      exact h)
    have HRD := Lib.hid (fun (m : M) w0 w1 (hm : m.t = Rt) (hL : Lies w0 [] w1 m) => by
      have h := ex_Read m w0 w1 hL (by rw [hm]; exact hfair) (by rw [hm]; omega)
      rw [hm] at h
      exact h)
    have HXF := Lib.hid (xRead_fair Rt hfair)
    have hxz := xRead_size Rt
    have HXZ : Hid ((xRead Rt).1.size ≤ 601) := Lib.hid (by omega)
    have HXT := Lib.hid (xRead_texts Rt htx)
    have HXR := Lib.hid (xRead_right Rt)
    clear hfair hsz hxz htx
    unfold TrOut at HO
    unfold RxOut at HRD
    generalize xRead Rt = RR at *
    obtain ⟨RT, RE, RP⟩ := RR
    simp only at HRD HXF HXZ HXT HXR
    by_cases hre : RE = 0
    · subst hre
      have HRGT := Lib.hid (HXR.out rfl)
      have HN := Lib.hid (fun n w1 => keep_num n w1)
      have HST := Lib.hid (fun s w1 => keep_str s w1)
      clear HXR
      go_upto_region 12 with (first
        | ((with_reducible refine (HR.out _).mono ?_); rintro r w1 ⟨m, rfl, hmt, hml, hE1⟩; simp only []; have HMT := Lib.hid hmt; have HML := Lib.hid (hml.ev (Ev.alloc w1 (.cells #[.int .i64 m.kind, .string ⟨m.s.toArray⟩, .int .i64 m.n, .slice m.A m.kids.length m.cap, .int .i64 (m.pos : Int)] 34))); have HE1 := Lib.hid (hE1.trans (Ev.alloc w1 (.cells #[.int .i64 m.kind, .string ⟨m.s.toArray⟩, .int .i64 m.n, .slice m.A m.kids.length m.cap, .int .i64 (m.pos : Int)] 34))); have BM := Lib.hid (Bx.new 34 #[.int .i64 m.kind, .string ⟨m.s.toArray⟩, .int .i64 m.n, .slice m.A m.kids.length m.cap, .int .i64 (m.pos : Int)] w1); clear hmt hml; obtain ⟨⟨c0, c1, c2, c3, c4⟩, _⟩ := BM.out.five)
        | ((with_reducible refine (HO.out m _ _ HMT.out HML.out).mono ?_); rintro r w2 ⟨m2, rfl, hm2t, hm2l, hE2⟩; have HM2T := Lib.hid (hm2t.trans HMT.out); have HM2L := Lib.hid hm2l; have HE2 := Lib.hid hE2; clear hm2t hm2l)
        | ((with_reducible refine (HRD.out m2 _ _ HM2T.out HM2L.out).mono ?_); rintro r w3 ⟨x, rfl, hx1t, hx1l, hE3⟩; simp only []; have HXT1 := Lib.hid hx1t; clear c0 c1 c2 c3 c4; have S1 : TxS2 w w3.heap.size x none 0 0 [] _ := ⟨Bx.new 39 #[.int .i64 x.kind, .string ⟨x.s.toArray⟩, .int .i64 x.n, .slice x.A x.kids.length x.cap] w3, (hx1l.ev (Ev.alloc w3 (.cells #[.int .i64 x.kind, .string ⟨x.s.toArray⟩, .int .i64 x.n, .slice x.A x.kids.length x.cap] 39))).low0, Sl.nil_ _, (HE1.out.trans (HE2.out.trans hE3)).trans (Ev.alloc w3 _)⟩; clear hx1t hx1l)
        | (have hh := S2; (with_reducible refine (HN.out _ _).mono ?_); rintro r w7 ⟨rfl, hE7⟩; have S3 := S2.ev hE7)
        | ((with_reducible refine (HN.out _ _).mono ?_); rintro r w6 ⟨rfl, hE6⟩; have S2 := S1.ev hE6)
        | ((with_reducible refine (HST.out _ _).mono ?_); rintro r w8 ⟨rfl, hE8⟩; have S4 := S3.ev hE8))
      have hrow := Vs.made [numV a, numV b, (2, 0, t1)] 3 rfl (by decide) w8 #[.int .i64 1, .int .i64 a, .string ⟨#[]⟩, .int .i64 1, .int .i64 b, .string ⟨#[]⟩, .int .i64 2, .int .i64 0, .string t1] rfl
      have hrowb := Bx.new 25 #[.int .i64 1, .int .i64 a, .string ⟨#[]⟩, .int .i64 1, .int .i64 b, .string ⟨#[]⟩, .int .i64 2, .int .i64 0, .string t1] w8
      have hlxr : Lx 0 [w8.heap.size] w8 x := S4.lx.less (fun k hk => by simp at hk; subst hk; exact .inr (.inr (Nat.le_refl _)))
      have hlxr := hlxr.ev (Ev.alloc w8 (.cells #[.int .i64 1, .int .i64 a, .string ⟨#[]⟩, .int .i64 1, .int .i64 b, .string ⟨#[]⟩, .int .i64 2, .int .i64 0, .string t1] 25))
      have S : TxS2 w w3.heap.size x (some ⟨w8.heap.size, 0, none⟩) 3 3 [numV a, numV b, (2, 0, t1)] (w8.alloc (.cells #[.int .i64 1, .int .i64 a, .string ⟨#[]⟩, .int .i64 1, .int .i64 b, .string ⟨#[]⟩, .int .i64 2, .int .i64 0, .string t1] 25)) := ⟨S4.bx.ev (Ev.alloc _ _), S4.lx.ev (Ev.alloc _ _), hrow, S4.all.trans (Ev.alloc _ _)⟩
      have HN1 := Lib.hid (Nat.ne_of_lt S4.bx.lt)
      have HN4 := Lib.hid S4.all.size
      have HLXR := Lib.hid hlxr
      have HROW := Lib.hid hrowb
      generalize w8.alloc (.cells #[.int .i64 1, .int .i64 a, .string ⟨#[]⟩, .int .i64 1, .int .i64 b, .string ⟨#[]⟩, .int .i64 2, .int .i64 0, .string t1] 25) = v11 at *
      generalize w8.heap.size = gr at *
      generalize w3.heap.size = gx at *
      clear hrow hrowb hlxr S1 S2 S3 S4 HM2T HM2L HMT HML BM HE1 HE2
      have hT1 := fun w1 (hE : Ev v11 w1) g (hC : Cs w1 (some ⟨g, 0, none⟩) 3 3 tcols) => ex_type x 0 w1 _ _ _ tcols (S.lx.ev hE) hC (by rw [HXT1.out]; have := HXZ.out; omega) (fair_short (by rw [HXT1.out]; exact HXF.out))
      have hE1 := fun w1 (hE : Ev v11 w1) g (hC : Cs w1 (some ⟨g, 0, none⟩) 3 3 tcols) => ex_eval x 0 w1 _ _ _ tcols _ _ _ _ (S.lx.ev hE) hC (S.v.ev hE) (by rw [HXT1.out]; have := HXZ.out; omega) (rowc_fair HA.out HB.out ht1) (by rw [HXT1.out]; exact HXF.out)
      have hval : xValue tcols (rowc a b t1) RT = if (xType tcols RT).2 == 0 then xEval tcols (rowc a b t1) RT else (v0, 22) := by
        unfold xValue
        rw [rowc_fits ht1, Bool.and_true]
      have hty : xType tcols RT = xKind tcols RT := by unfold xType; rw [HRGT.out]; rfl
      have hsd : (xType tcols RT).2 = 0 → Sound (xEval tcols (rowc a b t1) RT) (xType tcols RT).1 := fun h => by
        rw [hty] at h ⊢
        exact xEval_sound tcols _ (rowc_fits ht1) RT HRGT.out HXT.out h
      have hE3 := fun (x0 x1 : Int) (h0 : i64R x0) (h1 : i64R x1) w1 (hL : Lx 0 [] w1 x) (hV : Vs w1 (some ⟨gr, 0, none⟩) 3 3 (rowc x0 x1 t1)) g (hC : Cs w1 (some ⟨g, 0, none⟩) 3 3 tcols) => ex_eval x 0 w1 _ _ _ tcols _ _ _ _ hL hC hV (by rw [HXT1.out]; have := HXZ.out; omega) (rowc_fair h0 h1 ht1) (by rw [HXT1.out]; exact HXF.out)
      have hval3 : ∀ x0 x1, (xType tcols RT).2 = 0 → xEval tcols (rowc a b t1) RT = xEval tcols (rowc x0 x1 t1) RT → xValue tcols (rowc x0 x1 t1) x.t = xValue tcols (rowc a b t1) RT := fun x0 x1 h he => by
        rw [HXT1.out]
        unfold xValue
        rw [rowc_fits ht1, rowc_fits ht1, he]
      rw [show [numV a, numV b, ((2 : Int), (0 : Int), t1)] = rowc a b t1 from rfl] at S hE1
      unfold ev_ M.kv at hT1 hE1 hE3
      unfold VOut at hE1 hE3
      rw [HXT1.out] at hT1
      simp only [HXT1.out] at hE1
      generalize xType tcols RT = TY at *
      obtain ⟨tk, ty⟩ := TY
      generalize hVY : xValue tcols (rowc a b t1) RT = VY at *
      obtain ⟨⟨vk, vn, vs_⟩, vy⟩ := VY
      simp only at hT1 hE1 hsd hval hval3
      have HT1 := Lib.hid hT1
      have HE1 := Lib.hid hE1
      have HE3a := Lib.hid hE3
      have HSD := Lib.hid hsd
      have HVAL := Lib.hid hval
      have HVAL3 := Lib.hid hval3
      have HTC := Lib.hid (fun w1 => keep_tF w1)
      have S0 := S
      clear hT1 hE1 hE3 hty hsd hval hval3 hVY
      refine wp_region_slots hmix [fun v _ => v = .agg #[.int .i64 x.kind, .string ⟨x.s.toArray⟩, .int .i64 x.n, .slice x.A x.kids.length x.cap], ColsF, fun v _ => v = .tuple #[.int .i64 tk, .int .i64 ty], fun v _ => v = .tuple #[.int .i64 tk, .int .i64 ty], fun v _ => v = .int .i64 tk, fun v _ => v = .int .i64 ty, fun v _ => v = .int .i64 tk, fun v _ => v = .int .i64 ty]
        164 rfl (by kernel_rfl) ⟨mono_eq _, ColsF.mono, mono_eq _, mono_eq _, mono_eq _, mono_eq _, mono_eq _, mono_eq _, trivial⟩ ?_ ?_
      · refine ops_cons 0 ?_ (ops_cons 1 ?_ (ops_cons 2 ?_ (ops_cons 3 ?_ (ops_cons 4 ?_ (ops_cons 5 ?_ (ops_cons 6 ?_ (ops_cons 7 ?_ (ops_nil 8))))))))
        · refine op_value fun a wq c => ⟨(wanted_plain rfl), _, run_load_box2 rfl ((c.was 14 (by kernel_rfl) rfl) : a.eval (.tmp 14) = .pointer (some ⟨gx, 0, none⟩)) (S.bx.ev c.ev) Try.underlying39 rfl Try.sizeExpr, rfl⟩
        · refine op_call fun a wq c => ⟨(wanted_plain rfl), 6, #[], ?_, ?_⟩
          · rw [run_call 6 _ _ rfl (by kernel_rfl)]
            simp
          · exact HTC.out wq
        · refine op_call fun a wq c => ?_
          obtain ⟨g_, cs_, eg_, _, hC_⟩ := (c.got 1 66 (by kernel_rfl) (by kernel_rfl) rfl : ColsF _ _)
          refine ⟨(wanted_plain rfl), 14, #[.agg #[.int .i64 x.kind, .string ⟨x.s.toArray⟩, .int .i64 x.n, .slice x.A x.kids.length x.cap], .slice (some ⟨g_, 0, none⟩) 3 3], ?_, ?_⟩
          · rw [run_call 14 _ _ rfl (by kernel_rfl)]
            have e_0 : a.eval (.tmp 65) = .agg #[.int .i64 x.kind, .string ⟨x.s.toArray⟩, .int .i64 x.n, .slice x.A x.kids.length x.cap] := (c.new 0 65 (by kernel_rfl) (by kernel_rfl))
            simp [e_0, eg_]
          · refine (HT1.out wq c.ev _ hC_).mono ?_
            rintro e wp ⟨rfl, hE⟩
            exact ⟨_, rfl, hE, rfl⟩
        · refine op_value fun a w c => ⟨(wanted_plain rfl), _, run_move _ rfl w, (c.new 2 67 (by kernel_rfl) (by kernel_rfl))⟩
        · refine op_value fun a w c => ⟨(wanted_plain rfl), .int .i64 tk, ?_, rfl⟩
          have e64 : a.eval (.tmp 64) = .tuple #[.int .i64 tk, .int .i64 ty] := (c.new 3 64 (by kernel_rfl) (by kernel_rfl))
          generalize a.eval = ρ at e64 ⊢
          simp [execOp, e64, go_sem]
        · refine op_value fun a w c => ⟨(wanted_plain rfl), .int .i64 ty, ?_, rfl⟩
          have e64 : a.eval (.tmp 64) = .tuple #[.int .i64 tk, .int .i64 ty] := (c.new 3 64 (by kernel_rfl) (by kernel_rfl))
          generalize a.eval = ρ at e64 ⊢
          simp [execOp, e64, go_sem]
        · refine op_value fun a w c => ⟨(wanted_plain rfl), _, run_assign _ rfl w, (c.new 4 68 (by kernel_rfl) (by kernel_rfl))⟩
        · refine op_value fun a w c => ⟨(wanted_plain rfl), _, run_assign _ rfl w, (c.new 5 69 (by kernel_rfl) (by kernel_rfl))⟩
      intro sl v12 hEr hold hnew
      have f3 : sl 3 = .int .i64 c := hold 3 (by kernel_rfl)
      have f14 : sl 14 = .pointer (some ⟨gx, 0, none⟩) := hold 14 (by kernel_rfl)
      have f17 : sl 17 = .slice (some ⟨gr, 0, none⟩) 3 3 := hold 17 (by kernel_rfl)
      have f18 : sl 18 = .int .i64 tk := hnew 6 18 (by kernel_rfl)
      have f19 : sl 19 = .int .i64 ty := hnew 7 19 (by kernel_rfl)
      have f64 : sl 64 = .tuple #[.int .i64 tk, .int .i64 ty] := hnew 3 64 (by kernel_rfl)
      have f65 : sl 65 = .agg #[.int .i64 x.kind, .string ⟨x.s.toArray⟩, .int .i64 x.n, .slice x.A x.kids.length x.cap] := hnew 0 65 (by kernel_rfl)
      have f67 : sl 67 = .tuple #[.int .i64 tk, .int .i64 ty] := hnew 2 67 (by kernel_rfl)
      have f68 : sl 68 = .int .i64 tk := hnew 4 68 (by kernel_rfl)
      have f69 : sl 69 = .int .i64 ty := hnew 5 69 (by kernel_rfl)
      change Exit.then _ _ .normal ⟨#[sl 0, sl 1, sl 2, sl 3, sl 4, sl 5, sl 6, sl 7, sl 8, sl 9, sl 10, sl 11, sl 12, sl 13, sl 14, sl 15, sl 16, sl 17, sl 18, sl 19, sl 20, sl 21, sl 22, sl 23, sl 24, sl 25, sl 26, sl 27, sl 28, sl 29, sl 30, sl 31, sl 32, sl 33, sl 34, sl 35, sl 36, sl 37, sl 38, sl 39, sl 40, sl 41, sl 42, sl 43, sl 44, sl 45, sl 46, sl 47, sl 48, sl 49, sl 50, sl 51, sl 52, sl 53, sl 54, sl 55, sl 56, sl 57, sl 58, sl 59, sl 60, sl 61, sl 62, sl 63, sl 64, sl 65, sl 66, sl 67, sl 68, sl 69, sl 70, sl 71, sl 72, sl 73, sl 74, sl 75, sl 76, sl 77, sl 78, sl 79, sl 80, sl 81, sl 82, sl 83, sl 84, sl 85, sl 86, sl 87, sl 88, sl 89, sl 90, sl 91, sl 92, sl 93, sl 94, sl 95, sl 96, sl 97, sl 98, sl 99, sl 100, sl 101, sl 102, sl 103, sl 104, sl 105, sl 106, sl 107, sl 108, sl 109, sl 110, sl 111, sl 112, sl 113, sl 114, sl 115, sl 116, sl 117, sl 118, sl 119, sl 120, sl 121, sl 122, sl 123, sl 124, sl 125, sl 126, sl 127, sl 128, sl 129, sl 130, sl 131, sl 132, sl 133, sl 134, sl 135, sl 136, sl 137, sl 138, sl 139, sl 140, sl 141, sl 142, sl 143, sl 144, sl 145, sl 146, sl 147, sl 148, sl 149, sl 150, sl 151, sl 152, sl 153, sl 154, sl 155, sl 156, sl 157, sl 158, sl 159, sl 160, sl 161, sl 162, sl 163], _⟩ _
      simp only [f3, f14, f17, f18, f19, f64, f65, f67, f68, f69]
      clear hold hnew
      have E12 := hEr
      replace S := S.ev hEr
      replace HE1 := Lib.hid (fun w1 (hE : Ev v12 w1) => HE1.out w1 (E12.trans hE))
      clear hEr
      go_upto_region 13 with fail
      refine wp_region_slotsN hmix (JV (v12.heap.size)) 8 20 7 (BxV (v12.heap.size) vk vn vs_) [fun v _ => v = .agg #[.int .i64 x.kind, .string ⟨x.s.toArray⟩, .int .i64 x.n, .slice x.A x.kids.length x.cap], ColsF, fun v _ => v = .slice (some ⟨gr, 0, none⟩) 3 3, fun v _ => v = .tuple #[.agg #[.int .i64 vk, .int .i64 vn, .string vs_], .int .i64 vy], fun v _ => v = .tuple #[.agg #[.int .i64 vk, .int .i64 vn, .string vs_], .int .i64 vy], fun v _ => v = .agg #[.int .i64 vk, .int .i64 vn, .string vs_], fun v _ => v = .int .i64 vy, NewV (v12.heap.size), fun _ _ => True, fun v _ => v = .int .i64 vy]
        164 rfl (by kernel_rfl) ⟨mono_eq _, ColsF.mono, mono_eq _, mono_eq _, mono_eq _, mono_eq _, mono_eq _, NewV.mono _, mono_true, mono_eq _, trivial⟩ ⟨.inr (.inr fun _ _ _ _ h => h), .inr (.inr (ColsF.jump _)), .inr (.inr fun _ _ _ _ h => h), .inr (.inr fun _ _ _ _ h => h), .inr (.inr fun _ _ _ _ h => h), .inr (.inr fun _ _ _ _ h => h), .inr (.inr fun _ _ _ _ h => h), .inr (.inr (NewV.jump _ _)), .inl rfl, .inr (.inr fun _ _ _ _ h => h), trivial⟩ (BxV.mono _ _ _ _) _ rfl (by kernel_rfl) (by kernel_rfl) ?_ ?_ ?_
      · refine opn_cons 0 ?_ (opn_cons 1 ?_ (opn_cons 2 ?_ (opn_cons 3 ?_ (opn_cons 4 ?_ (opn_cons 5 ?_ (opn_cons 6 ?_ (opn_cons 7 ?_ (opn_store 8 (opn_cons 9 ?_ (opn_nil 10))))))))))
        · refine op_value fun a wq c => ⟨(wanted_plain rfl), _, run_load_box2 rfl ((c.was 14 (by kernel_rfl) rfl) : a.eval (.tmp 14) = .pointer (some ⟨gx, 0, none⟩)) (S.bx.ev c.ev) Try.underlying39 rfl Try.sizeExpr, rfl⟩
        · refine op_call fun a wq c => ⟨(wanted_plain rfl), 6, #[], ?_, ?_⟩
          · rw [run_call 6 _ _ rfl (by kernel_rfl)]
            simp
          · exact HTC.out wq
        · refine op_value fun a w c => ⟨(wanted_plain rfl), _, run_move _ rfl w, (c.was 17 (by kernel_rfl) rfl)⟩
        · refine op_call fun a wq c => ?_
          obtain ⟨g_, cs_, eg_, _, hC_⟩ := (c.got 1 72 (by kernel_rfl) (by kernel_rfl) rfl : ColsF _ _)
          refine ⟨(wanted_plain rfl), 16, #[.agg #[.int .i64 x.kind, .string ⟨x.s.toArray⟩, .int .i64 x.n, .slice x.A x.kids.length x.cap], .slice (some ⟨g_, 0, none⟩) 3 3, .slice (some ⟨gr, 0, none⟩) 3 3], ?_, ?_⟩
          · rw [run_call 16 _ _ rfl (by kernel_rfl)]
            have e_0 : a.eval (.tmp 71) = .agg #[.int .i64 x.kind, .string ⟨x.s.toArray⟩, .int .i64 x.n, .slice x.A x.kids.length x.cap] := (c.new 0 71 (by kernel_rfl) (by kernel_rfl))
            have e_1 : a.eval (.tmp 73) = .slice (some ⟨gr, 0, none⟩) 3 3 := (c.new 2 73 (by kernel_rfl) (by kernel_rfl))
            simp [e_0, e_1, eg_]
          · refine (HE1.out wq c.ev _ hC_).mono ?_
            rintro e wp ⟨rfl, hE⟩
            exact ⟨_, rfl, hE, rfl⟩
        · refine op_value fun a w c => ⟨(wanted_plain rfl), _, run_move _ rfl w, (c.new 3 74 (by kernel_rfl) (by kernel_rfl))⟩
        · refine op_value fun a w c => ⟨(wanted_plain rfl), .agg #[.int .i64 vk, .int .i64 vn, .string vs_], ?_, rfl⟩
          have e70 : a.eval (.tmp 70) = .tuple #[.agg #[.int .i64 vk, .int .i64 vn, .string vs_], .int .i64 vy] := (c.new 4 70 (by kernel_rfl) (by kernel_rfl))
          generalize a.eval = ρ at e70 ⊢
          simp [execOp, e70, go_sem]
        · refine op_value fun a w c => ⟨(wanted_plain rfl), .int .i64 vy, ?_, rfl⟩
          have e70 : a.eval (.tmp 70) = .tuple #[.agg #[.int .i64 vk, .int .i64 vn, .string vs_], .int .i64 vy] := (c.new 4 70 (by kernel_rfl) (by kernel_rfl))
          generalize a.eval = ρ at e70 ⊢
          simp [execOp, e70, go_sem]
        · refine op_makes fun a wq c => ⟨(wanted_plain rfl), _, _, run_alloc_val rfl, Ev.alloc _ _, NewV.new _ _ c.ev.size⟩
        · refine op_value fun a w c => ⟨(wanted_plain rfl), _, run_assign _ rfl w, (c.new 6 76 (by kernel_rfl) (by kernel_rfl))⟩
      · refine ⟨rfl, fun a wq c => ?_⟩
        obtain ⟨g_, d0_, d1_, d2_, eg_, hB_, hb_⟩ := (c.got 7 20 (by kernel_rfl) (by kernel_rfl) rfl : NewV _ _ _)
        have ev_0 : a.eval (.tmp 75) = .agg #[.int .i64 vk, .int .i64 vn, .string vs_] := (c.new 5 75 (by kernel_rfl) (by kernel_rfl))
        obtain ⟨⟨z0_, z1_, z2_⟩, y0_, y1_, y2_⟩ := hB_.three
        refine ⟨wanted_plain rfl, set3 g_ (.int .i64 vk) (.int .i64 vn) (.string vs_) wq, ?_, ⟨g_, _, _, _, hb_, ⟨_, _, _, hB_⟩, rfl⟩, c.ev.box (set3_but _ _ _ _ _) hb_, ⟨g_, eg_, hB_.set3 _ _ _, hb_⟩⟩
        generalize a.eval = ρ at eg_ ev_0 ⊢
        simp [execOp, eg_, ev_0, go_sem, z0_, z1_, z2_, y0_, y1_, y2_, set3]
      intro sl v13 hEr hold hnew hps
      obtain ⟨g1, f20, B1, hb_g1⟩ := hps
      have f3 : sl 3 = .int .i64 c := hold 3 (by kernel_rfl)
      have f14 : sl 14 = .pointer (some ⟨gx, 0, none⟩) := hold 14 (by kernel_rfl)
      have f17 : sl 17 = .slice (some ⟨gr, 0, none⟩) 3 3 := hold 17 (by kernel_rfl)
      have f18 : sl 18 = .int .i64 tk := hold 18 (by kernel_rfl)
      have f19 : sl 19 = .int .i64 ty := hold 19 (by kernel_rfl)
      have f21 : sl 21 = .int .i64 vy := hnew 9 21 (by kernel_rfl)
      have f70 : sl 70 = .tuple #[.agg #[.int .i64 vk, .int .i64 vn, .string vs_], .int .i64 vy] := hnew 4 70 (by kernel_rfl)
      have f71 : sl 71 = .agg #[.int .i64 x.kind, .string ⟨x.s.toArray⟩, .int .i64 x.n, .slice x.A x.kids.length x.cap] := hnew 0 71 (by kernel_rfl)
      have f73 : sl 73 = .slice (some ⟨gr, 0, none⟩) 3 3 := hnew 2 73 (by kernel_rfl)
      have f74 : sl 74 = .tuple #[.agg #[.int .i64 vk, .int .i64 vn, .string vs_], .int .i64 vy] := hnew 3 74 (by kernel_rfl)
      have f75 : sl 75 = .agg #[.int .i64 vk, .int .i64 vn, .string vs_] := hnew 5 75 (by kernel_rfl)
      have f76 : sl 76 = .int .i64 vy := hnew 6 76 (by kernel_rfl)
      change Exit.then _ _ .normal ⟨#[sl 0, sl 1, sl 2, sl 3, sl 4, sl 5, sl 6, sl 7, sl 8, sl 9, sl 10, sl 11, sl 12, sl 13, sl 14, sl 15, sl 16, sl 17, sl 18, sl 19, sl 20, sl 21, sl 22, sl 23, sl 24, sl 25, sl 26, sl 27, sl 28, sl 29, sl 30, sl 31, sl 32, sl 33, sl 34, sl 35, sl 36, sl 37, sl 38, sl 39, sl 40, sl 41, sl 42, sl 43, sl 44, sl 45, sl 46, sl 47, sl 48, sl 49, sl 50, sl 51, sl 52, sl 53, sl 54, sl 55, sl 56, sl 57, sl 58, sl 59, sl 60, sl 61, sl 62, sl 63, sl 64, sl 65, sl 66, sl 67, sl 68, sl 69, sl 70, sl 71, sl 72, sl 73, sl 74, sl 75, sl 76, sl 77, sl 78, sl 79, sl 80, sl 81, sl 82, sl 83, sl 84, sl 85, sl 86, sl 87, sl 88, sl 89, sl 90, sl 91, sl 92, sl 93, sl 94, sl 95, sl 96, sl 97, sl 98, sl 99, sl 100, sl 101, sl 102, sl 103, sl 104, sl 105, sl 106, sl 107, sl 108, sl 109, sl 110, sl 111, sl 112, sl 113, sl 114, sl 115, sl 116, sl 117, sl 118, sl 119, sl 120, sl 121, sl 122, sl 123, sl 124, sl 125, sl 126, sl 127, sl 128, sl 129, sl 130, sl 131, sl 132, sl 133, sl 134, sl 135, sl 136, sl 137, sl 138, sl 139, sl 140, sl 141, sl 142, sl 143, sl 144, sl 145, sl 146, sl 147, sl 148, sl 149, sl 150, sl 151, sl 152, sl 153, sl 154, sl 155, sl 156, sl 157, sl 158, sl 159, sl 160, sl 161, sl 162, sl 163], _⟩ _
      simp only [f20, f3, f14, f17, f18, f19, f21, f70, f71, f73, f74, f75, f76]
      clear hold hnew
      have E13 := E12.trans hEr
      replace S := S.ev hEr
      clear hEr HE1 HT1
      have e1 := fun w1 => run_eq_val 0 0 ⟨#[]⟩ 0 0 ⟨#[]⟩ w1
      have e2 := fun x y w1 => eqGuard_val .eql x y #[.int .i64 0, .int .i64 0, .string ⟨#[]⟩] #[.int .i64 0, .int .i64 0, .string ⟨#[]⟩] w1
      have e3 : sameV 0 0 ⟨#[]⟩ 0 0 ⟨#[]⟩ = true := sameV_self _ _ _
      simp only [e3] at e1
      unfold vv at e1
      by_cases hty : ty = 0
      · subst hty
        have hs := HSD.out rfl
        have hv2 : xEval tcols (rowc a b t1) RT = ((vk, vn, vs_), vy) := by
          have := HVAL.out
          rw [if_pos (by rfl)] at this
          exact this.symm
        rw [hv2] at hs
        have HV2 := Lib.hid hv2
        clear hv2
        rcases hs with ⟨h0, hrg, hkk⟩ | ⟨h0, hz⟩
        · simp only at h0 hrg hkk
          subst h0
          subst hkk
          have HRG : Hid (rightV vk vn vs_ = true) := Lib.hid hrg
          have HU := Lib.hid (fun w1 (hE : Ev v13 w1) => ex_uses x 0 w1 (S.lx.ev hE) (by rw [HXT1.out]; have := HXZ.out; omega))
          unfold ev_ M.kv UsOut at HU
          have hg1 : gr < g1 := Nat.lt_of_lt_of_le (HROW.out.ev E12).lt hb_g1
          have hgr13 : gr < v13.heap.size := (HROW.out.ev E13).lt
          obtain ⟨⟨c0, c1, c2, c3⟩, _⟩ := S.bx.four
          clear e1 e2 e3 hrg
          go_wp2_with (first
            | ((with_reducible refine (HU.out _ (Ev.refl _)).mono ?_); rintro r wu ⟨UA, un, ucap, ns, rfl, hus, hall, hun, hub, hEu⟩; have HALL := Lib.hid hall; have HUB := Lib.hid (fun ad e => Nat.ne_of_gt (Nat.lt_of_lt_of_le hgr13 (hub ad e)) : ∀ ad, UA = some ad → ad.block ≠ gr); have hul := hus.le; have hum := hus.max; have SD0 : SdS w gx g1 gr x #[.int .i64 vk, .int .i64 vn, .string vs_] UA un ucap (Lib.compact (sortS ns)) a b t1 wu := ⟨S.bx.ev hEu, (HLXR.out.ev E13).ev hEu, B1.ev hEu, hus, (HROW.out.ev E13).ev hEu, S.all.trans hEu⟩; have HSD0 := Lib.hid SD0; clear hus hall hub SD0 c0 c1 c2 c3))
          have HN2 : Hid (g1 ≠ gr) := Lib.hid (Nat.ne_of_gt hg1)
          rw [HXT1.out] at HALL
          obtain ⟨U, hU⟩ : ∃ U, U = Lib.compact (sortS ns) := ⟨_, rfl⟩
          rw [← hU] at HSD0
          have HU2 := Lib.hid hU
          clear hU HU hg1 hgr13 S B1
          go_loopw [23, 24, 25] (fun iv hv nv wr => ∃ (q : Nat) (x0 x1 : Int), iv = .int .i64 (q : Int) ∧ q ≤ 2 ∧ Hid (x0 = if 0 < q ∧ U.any (· == [97]) = false then c else a) ∧ Hid (x1 = if 1 < q ∧ U.any (· == [98]) = false then c else b) ∧ Hid (SdS w gx g1 gr x #[.int .i64 vk, .int .i64 vn, .string vs_] UA un ucap U x0 x1 t1 wr)) (fun iv _ _ _ => 2 - (intOf iv).toNat)
          case atStart => exact ⟨0, a, b, rfl, by omega, Lib.hid (by simp), Lib.hid (by simp), HSD0⟩
          case round =>
            obtain ⟨q, x0, x1, rfl, hq, HX0, HX1, HSS⟩ := hrel
            have hq3 : q = 0 ∨ q = 1 ∨ q = 2 := by omega
            rcases hq3 with hq | hq | hq <;> subst hq
            · go_wp2
              go_loopw [24, 25] (fun hv nv w5 => ∃ (k : Nat) (F : Bool), nv = .int .i64 (k : Int) ∧ hv = .bool F ∧ k ≤ un ∧ Hid (F = (U.take k).any (· == [97])) ∧ Hid (Ev wr w5)) (fun _ nv _ => un - (intOf nv).toNat)
              case atStart => exact ⟨0, false, rfl, rfl, Nat.zero_le _, Lib.hid (by simp), Lib.hid (Ev.refl _)⟩
              case round =>
                rename_i w5
                obtain ⟨k, F, rfl, rfl, hk, HF, HE5⟩ := hrel
                have HS5 := Lib.hid (HSS.out.ev HE5.out)
                by_cases hlt : k < un
                · obtain ⟨us, hx⟩ := HS5.out.u.at hlt
                  obtain ⟨ub, uo, hua, hub, uc⟩ := Ss.cell HS5.out.u hx
                  have HTK : Hid ((U.take (k + 1)).any (· == [97]) = (F || (us == [97]))) := Lib.hid (by
                    obtain ⟨hk2, e⟩ := List.getElem?_eq_some_iff.1 hx
                    rw [List.take_succ_eq_append_getElem hk2, List.any_append, ← HF.out, e]
                    simp)
                  have j1 : (0 : Int) ≤ (k : Int) := by omega
                  have j2 : (k : Int) < (un : Int) := by omega
                  clear hx
                  subst hua
                  cases F
                  · generalize hE_ : (us == [97]) = E at *
                    go_upto_region 26 with fail
                    refine wp_region_slots hmix [fun v _ => v = .bool false, fun v _ => v = .bool false, fun v _ => v = .slice (some ⟨ub, uo, none⟩) un ucap, fun v _ => v = .int .i64 (k : Int), fun v _ => v = .pointer (some ⟨ub, uo + k, none⟩), fun v _ => v = .string ⟨us.toArray⟩, ColsF, fun v _ => v = .int .i64 ((0 : Nat) : Int), ColAt 0, ColAt 0, fun v _ => v = .string ⟨#[97]⟩, fun v _ => v = .bool E, fun v _ => v = .bool E, fun v _ => v = .bool E]
                      164 rfl (by kernel_rfl) ⟨mono_eq _, mono_eq _, mono_eq _, mono_eq _, mono_eq _, mono_eq _, ColsF.mono, mono_eq _, ColAt.mono _, ColAt.mono _, mono_eq _, mono_eq _, mono_eq _, mono_eq _, trivial⟩ ?_ ?_
                    · refine ops_cons 0 ?_ (ops_cons 1 ?_ (ops_cons 2 ?_ (ops_cons 3 ?_ (ops_cons 4 ?_ (ops_cons 5 ?_ (ops_cons 6 ?_ (ops_cons 7 ?_ (ops_cons 8 ?_ (ops_cons 9 ?_ (ops_cons 10 ?_ (ops_cons 11 ?_ (ops_cons 12 ?_ (ops_cons 13 ?_ (ops_nil 14))))))))))))))
                      · refine op_value fun a w c => ⟨(wanted_plain rfl), _, run_move _ rfl w, (c.was 24 (by kernel_rfl) rfl)⟩
                      · refine op_value fun a w c => ⟨(wanted_plain rfl), _, run_move _ rfl w, (c.new 0 117 (by kernel_rfl) (by kernel_rfl))⟩
                      · refine op_value fun a w c => ⟨(wanted_yes rfl (by kernel_rfl) (c.new 1 118 (by kernel_rfl) (by kernel_rfl))), _, run_move _ rfl w, (c.was 22 (by kernel_rfl) rfl)⟩
                      · refine op_value fun a w c => ⟨(wanted_yes rfl (by kernel_rfl) (c.new 1 118 (by kernel_rfl) (by kernel_rfl))), _, run_move _ rfl w, (c.was 25 (by kernel_rfl) rfl)⟩
                      · refine op_value fun a wq c => ⟨(wanted_yes rfl (by kernel_rfl) (c.new 1 118 (by kernel_rfl) (by kernel_rfl))), .pointer (some ⟨ub, uo + k, none⟩), ?_, rfl⟩
                        have e_0 : a.eval (.tmp 119) = .slice (some ⟨ub, uo, none⟩) un ucap := (c.new 2 119 (by kernel_rfl) (by kernel_rfl))
                        have e_1 : a.eval (.tmp 120) = .int .i64 (k : Int) := (c.new 3 120 (by kernel_rfl) (by kernel_rfl))
                        generalize a.eval = ρ at e_0 e_1 ⊢
                        simp [execOp, e_0, e_1, go_sem, j1, j2]
                      · refine op_value fun a wq c => ⟨(wanted_yes rfl (by kernel_rfl) (c.new 1 118 (by kernel_rfl) (by kernel_rfl))), .string ⟨us.toArray⟩, ?_, rfl⟩
                        have e_0 : a.eval (.tmp 121) = .pointer (some ⟨ub, uo + k, none⟩) := (c.new 4 121 (by kernel_rfl) (by kernel_rfl))
                        have hc := (c.ev.cell (p := ⟨ub, uo + k, none⟩) hub).trans uc
                        generalize a.eval = ρ at e_0 ⊢
                        simp [execOp, e_0, hc, go_sem]
                      · refine op_call fun a wq c => ⟨(wanted_yes rfl (by kernel_rfl) (c.new 1 118 (by kernel_rfl) (by kernel_rfl))), 6, #[], ?_, ?_⟩
                        · rw [run_call 6 _ _ rfl (by kernel_rfl)]
                          simp
                        · exact HTC.out wq
                      · refine op_value fun a w c => ⟨(wanted_yes rfl (by kernel_rfl) (c.new 1 118 (by kernel_rfl) (by kernel_rfl))), _, run_move _ rfl w, (c.was 23 (by kernel_rfl) rfl)⟩
                      · refine op_value fun a wq c => ?_
                        obtain ⟨g_, cs_, eg_, _, hC_⟩ := (c.got 6 123 (by kernel_rfl) (by kernel_rfl) rfl : ColsF _ _)
                        have e_1 : a.eval (.tmp 124) = .int .i64 ((0 : Nat) : Int) := (c.new 7 124 (by kernel_rfl) (by kernel_rfl))
                        refine ⟨(wanted_yes rfl (by kernel_rfl) (c.new 1 118 (by kernel_rfl) (by kernel_rfl))), .pointer (some ⟨g_, 0, none⟩), ?_, ⟨g_, rfl, hC_⟩⟩
                        generalize a.eval = ρ at eg_ e_1 ⊢
                        simp [execOp, eg_, e_1, go_sem]
                      · refine op_value fun a wq c => ?_
                        obtain ⟨g_, eg_, hC_⟩ := (c.got 8 125 (by kernel_rfl) (by kernel_rfl) rfl : ColAt _ _ _)
                        refine ⟨(wanted_yes rfl (by kernel_rfl) (c.new 1 118 (by kernel_rfl) (by kernel_rfl))), .pointer (some ⟨g_, 0, none⟩), ?_, ⟨g_, rfl, hC_⟩⟩
                        generalize a.eval = ρ at eg_ ⊢
                        simp [execOp, eg_, go_sem]
                      · refine op_value fun a wq c => ?_
                        obtain ⟨g_, eg_, hC_⟩ := (c.got 9 126 (by kernel_rfl) (by kernel_rfl) rfl : ColAt _ _ _)
                        have hc := col_name0 hC_
                        refine ⟨(wanted_yes rfl (by kernel_rfl) (c.new 1 118 (by kernel_rfl) (by kernel_rfl))), .string ⟨#[97]⟩, ?_, rfl⟩
                        generalize a.eval = ρ at eg_ ⊢
                        simp [execOp, eg_, hc, go_sem]
                      · refine op_value fun a w c => ⟨(wanted_yes rfl (by kernel_rfl) (c.new 1 118 (by kernel_rfl) (by kernel_rfl))), .bool E, ?_, rfl⟩
                        have e122 : a.eval (.tmp 122) = .string ⟨us.toArray⟩ := (c.new 5 122 (by kernel_rfl) (by kernel_rfl))
                        have e127 : a.eval (.tmp 127) = .string ⟨#[97]⟩ := (c.new 10 127 (by kernel_rfl) (by kernel_rfl))
                        generalize a.eval = ρ at e122 e127 ⊢
                        simp [execOp, e122, e127, go_sem, hE_]
                      · refine op_value fun a w c => ⟨(wanted_plain rfl), _, run_pick_false rfl (c.new 1 118 (by kernel_rfl) (by kernel_rfl)) w, (c.new 11 128 (by kernel_rfl) (by kernel_rfl))⟩
                      · refine op_value fun a w c => ⟨(wanted_plain rfl), _, run_assign _ rfl w, (c.new 12 129 (by kernel_rfl) (by kernel_rfl))⟩
                    intro sm w6 hEr hold hnew
                    have f0 : sm 0 = sl 0 := hold 0 (by kernel_rfl)
                    have f1 : sm 1 = sl 1 := hold 1 (by kernel_rfl)
                    have f2 : sm 2 = sl 2 := hold 2 (by kernel_rfl)
                    have f3 : sm 3 = .int .i64 c := hold 3 (by kernel_rfl)
                    have f4 : sm 4 = sl 4 := hold 4 (by kernel_rfl)
                    have f5 : sm 5 = sl 5 := hold 5 (by kernel_rfl)
                    have f6 : sm 6 = sl 6 := hold 6 (by kernel_rfl)
                    have f7 : sm 7 = sl 7 := hold 7 (by kernel_rfl)
                    have f8 : sm 8 = sl 8 := hold 8 (by kernel_rfl)
                    have f9 : sm 9 = sl 9 := hold 9 (by kernel_rfl)
                    have f10 : sm 10 = sl 10 := hold 10 (by kernel_rfl)
                    have f11 : sm 11 = sl 11 := hold 11 (by kernel_rfl)
                    have f12 : sm 12 = sl 12 := hold 12 (by kernel_rfl)
                    have f13 : sm 13 = sl 13 := hold 13 (by kernel_rfl)
                    have f14 : sm 14 = .pointer (some ⟨gx, 0, none⟩) := hold 14 (by kernel_rfl)
                    have f15 : sm 15 = sl 15 := hold 15 (by kernel_rfl)
                    have f16 : sm 16 = sl 16 := hold 16 (by kernel_rfl)
                    have f17 : sm 17 = .slice (some ⟨gr, 0, none⟩) 3 3 := hold 17 (by kernel_rfl)
                    have f18 : sm 18 = .int .i64 vk := hold 18 (by kernel_rfl)
                    have f19 : sm 19 = .int .i64 0 := hold 19 (by kernel_rfl)
                    have f20 : sm 20 = .pointer (some ⟨g1, 0, none⟩) := hold 20 (by kernel_rfl)
                    have f21 : sm 21 = .int .i64 0 := hold 21 (by kernel_rfl)
                    have f22 : sm 22 = .slice (some ⟨ub, uo, none⟩) un ucap := hold 22 (by kernel_rfl)
                    have f23 : sm 23 = .int .i64 ((0 : Nat) : Int) := hold 23 (by kernel_rfl)
                    have f25 : sm 25 = .int .i64 (k : Int) := hold 25 (by kernel_rfl)
                    have f26 : sm 26 = sl 26 := hold 26 (by kernel_rfl)
                    have f27 : sm 27 = sl 27 := hold 27 (by kernel_rfl)
                    have f28 : sm 28 = sl 28 := hold 28 (by kernel_rfl)
                    have f29 : sm 29 = sl 29 := hold 29 (by kernel_rfl)
                    have f30 : sm 30 = sl 30 := hold 30 (by kernel_rfl)
                    have f31 : sm 31 = sl 31 := hold 31 (by kernel_rfl)
                    have f32 : sm 32 = sl 32 := hold 32 (by kernel_rfl)
                    have f33 : sm 33 = sl 33 := hold 33 (by kernel_rfl)
                    have f34 : sm 34 = sl 34 := hold 34 (by kernel_rfl)
                    have f35 : sm 35 = sl 35 := hold 35 (by kernel_rfl)
                    have f36 : sm 36 = sl 36 := hold 36 (by kernel_rfl)
                    have f37 : sm 37 = sl 37 := hold 37 (by kernel_rfl)
                    have f38 : sm 38 = sl 38 := hold 38 (by kernel_rfl)
                    have f39 : sm 39 = sl 39 := hold 39 (by kernel_rfl)
                    have f40 : sm 40 = sl 40 := hold 40 (by kernel_rfl)
                    have f41 : sm 41 = sl 41 := hold 41 (by kernel_rfl)
                    have f42 : sm 42 = sl 42 := hold 42 (by kernel_rfl)
                    have f43 : sm 43 = sl 43 := hold 43 (by kernel_rfl)
                    have f44 : sm 44 = sl 44 := hold 44 (by kernel_rfl)
                    have f45 : sm 45 = sl 45 := hold 45 (by kernel_rfl)
                    have f46 : sm 46 = sl 46 := hold 46 (by kernel_rfl)
                    have f47 : sm 47 = sl 47 := hold 47 (by kernel_rfl)
                    have f48 : sm 48 = sl 48 := hold 48 (by kernel_rfl)
                    have f49 : sm 49 = sl 49 := hold 49 (by kernel_rfl)
                    have f50 : sm 50 = sl 50 := hold 50 (by kernel_rfl)
                    have f51 : sm 51 = sl 51 := hold 51 (by kernel_rfl)
                    have f52 : sm 52 = sl 52 := hold 52 (by kernel_rfl)
                    have f53 : sm 53 = sl 53 := hold 53 (by kernel_rfl)
                    have f54 : sm 54 = sl 54 := hold 54 (by kernel_rfl)
                    have f55 : sm 55 = sl 55 := hold 55 (by kernel_rfl)
                    have f56 : sm 56 = sl 56 := hold 56 (by kernel_rfl)
                    have f57 : sm 57 = sl 57 := hold 57 (by kernel_rfl)
                    have f58 : sm 58 = sl 58 := hold 58 (by kernel_rfl)
                    have f59 : sm 59 = sl 59 := hold 59 (by kernel_rfl)
                    have f60 : sm 60 = sl 60 := hold 60 (by kernel_rfl)
                    have f61 : sm 61 = sl 61 := hold 61 (by kernel_rfl)
                    have f62 : sm 62 = sl 62 := hold 62 (by kernel_rfl)
                    have f63 : sm 63 = sl 63 := hold 63 (by kernel_rfl)
                    have f64 : sm 64 = sl 64 := hold 64 (by kernel_rfl)
                    have f65 : sm 65 = sl 65 := hold 65 (by kernel_rfl)
                    have f66 : sm 66 = sl 66 := hold 66 (by kernel_rfl)
                    have f67 : sm 67 = sl 67 := hold 67 (by kernel_rfl)
                    have f68 : sm 68 = sl 68 := hold 68 (by kernel_rfl)
                    have f69 : sm 69 = sl 69 := hold 69 (by kernel_rfl)
                    have f70 : sm 70 = .tuple #[.agg #[.int .i64 vk, .int .i64 vn, .string vs_], .int .i64 0] := hold 70 (by kernel_rfl)
                    have f71 : sm 71 = .agg #[.int .i64 x.kind, .string ⟨x.s.toArray⟩, .int .i64 x.n, .slice x.A x.kids.length x.cap] := hold 71 (by kernel_rfl)
                    have f72 : sm 72 = sl 72 := hold 72 (by kernel_rfl)
                    have f73 : sm 73 = .slice (some ⟨gr, 0, none⟩) 3 3 := hold 73 (by kernel_rfl)
                    have f74 : sm 74 = .tuple #[.agg #[.int .i64 vk, .int .i64 vn, .string vs_], .int .i64 0] := hold 74 (by kernel_rfl)
                    have f75 : sm 75 = .agg #[.int .i64 vk, .int .i64 vn, .string vs_] := hold 75 (by kernel_rfl)
                    have f76 : sm 76 = .int .i64 0 := hold 76 (by kernel_rfl)
                    have f77 : sm 77 = .int .i64 0 := hold 77 (by kernel_rfl)
                    have f78 : sm 78 = .bool false := hold 78 (by kernel_rfl)
                    have f79 : sm 79 = sl 79 := hold 79 (by kernel_rfl)
                    have f80 : sm 80 = sl 80 := hold 80 (by kernel_rfl)
                    have f81 : sm 81 = sl 81 := hold 81 (by kernel_rfl)
                    have f82 : sm 82 = sl 82 := hold 82 (by kernel_rfl)
                    have f83 : sm 83 = sl 83 := hold 83 (by kernel_rfl)
                    have f84 : sm 84 = sl 84 := hold 84 (by kernel_rfl)
                    have f85 : sm 85 = sl 85 := hold 85 (by kernel_rfl)
                    have f86 : sm 86 = sl 86 := hold 86 (by kernel_rfl)
                    have f87 : sm 87 = sl 87 := hold 87 (by kernel_rfl)
                    have f88 : sm 88 = sl 88 := hold 88 (by kernel_rfl)
                    have f89 : sm 89 = .int .i64 0 := hold 89 (by kernel_rfl)
                    have f90 : sm 90 = .bool false := hold 90 (by kernel_rfl)
                    have f91 : sm 91 = sl 91 := hold 91 (by kernel_rfl)
                    have f92 : sm 92 = sl 92 := hold 92 (by kernel_rfl)
                    have f93 : sm 93 = sl 93 := hold 93 (by kernel_rfl)
                    have f94 : sm 94 = sl 94 := hold 94 (by kernel_rfl)
                    have f95 : sm 95 = sl 95 := hold 95 (by kernel_rfl)
                    have f96 : sm 96 = sl 96 := hold 96 (by kernel_rfl)
                    have f97 : sm 97 = sl 97 := hold 97 (by kernel_rfl)
                    have f98 : sm 98 = sl 98 := hold 98 (by kernel_rfl)
                    have f99 : sm 99 = sl 99 := hold 99 (by kernel_rfl)
                    have f100 : sm 100 = sl 100 := hold 100 (by kernel_rfl)
                    have f101 : sm 101 = sl 101 := hold 101 (by kernel_rfl)
                    have f102 : sm 102 = sl 102 := hold 102 (by kernel_rfl)
                    have f103 : sm 103 = sl 103 := hold 103 (by kernel_rfl)
                    have f104 : sm 104 = sl 104 := hold 104 (by kernel_rfl)
                    have f105 : sm 105 = .agg #[.int .i64 x.kind, .string ⟨x.s.toArray⟩, .int .i64 x.n, .slice x.A x.kids.length x.cap] := hold 105 (by kernel_rfl)
                    have f106 : sm 106 = .slice (some ⟨ub, uo, none⟩) un ucap := hold 106 (by kernel_rfl)
                    have f107 : sm 107 = .int .i64 ((0 : Nat) : Int) := hold 107 (by kernel_rfl)
                    have f108 : sm 108 = .bool true := hold 108 (by kernel_rfl)
                    have f109 : sm 109 = u109 := hold 109 (by kernel_rfl)
                    have f110 : sm 110 = u110 := hold 110 (by kernel_rfl)
                    have f111 : sm 111 = .int .i64 (k : Int) := hold 111 (by kernel_rfl)
                    have f112 : sm 112 = .slice (some ⟨ub, uo, none⟩) un ucap := hold 112 (by kernel_rfl)
                    have f113 : sm 113 = .int .i64 (un : Int) := hold 113 (by kernel_rfl)
                    have f114 : sm 114 = .bool true := hold 114 (by kernel_rfl)
                    have f115 : sm 115 = u115 := hold 115 (by kernel_rfl)
                    have f116 : sm 116 = u116 := hold 116 (by kernel_rfl)
                    have f130 : sm 130 = u130 := hold 130 (by kernel_rfl)
                    have f131 : sm 131 = u131 := hold 131 (by kernel_rfl)
                    have f132 : sm 132 = u132 := hold 132 (by kernel_rfl)
                    have f133 : sm 133 = u133 := hold 133 (by kernel_rfl)
                    have f134 : sm 134 = u134 := hold 134 (by kernel_rfl)
                    have f135 : sm 135 = u135 := hold 135 (by kernel_rfl)
                    have f136 : sm 136 = u136 := hold 136 (by kernel_rfl)
                    have f137 : sm 137 = sl 137 := hold 137 (by kernel_rfl)
                    have f138 : sm 138 = sl 138 := hold 138 (by kernel_rfl)
                    have f139 : sm 139 = sl 139 := hold 139 (by kernel_rfl)
                    have f140 : sm 140 = sl 140 := hold 140 (by kernel_rfl)
                    have f141 : sm 141 = sl 141 := hold 141 (by kernel_rfl)
                    have f142 : sm 142 = sl 142 := hold 142 (by kernel_rfl)
                    have f143 : sm 143 = sl 143 := hold 143 (by kernel_rfl)
                    have f144 : sm 144 = sl 144 := hold 144 (by kernel_rfl)
                    have f145 : sm 145 = sl 145 := hold 145 (by kernel_rfl)
                    have f146 : sm 146 = sl 146 := hold 146 (by kernel_rfl)
                    have f147 : sm 147 = sl 147 := hold 147 (by kernel_rfl)
                    have f148 : sm 148 = sl 148 := hold 148 (by kernel_rfl)
                    have f149 : sm 149 = sl 149 := hold 149 (by kernel_rfl)
                    have f150 : sm 150 = sl 150 := hold 150 (by kernel_rfl)
                    have f151 : sm 151 = sl 151 := hold 151 (by kernel_rfl)
                    have f152 : sm 152 = sl 152 := hold 152 (by kernel_rfl)
                    have f153 : sm 153 = sl 153 := hold 153 (by kernel_rfl)
                    have f154 : sm 154 = sl 154 := hold 154 (by kernel_rfl)
                    have f155 : sm 155 = sl 155 := hold 155 (by kernel_rfl)
                    have f156 : sm 156 = sl 156 := hold 156 (by kernel_rfl)
                    have f157 : sm 157 = sl 157 := hold 157 (by kernel_rfl)
                    have f158 : sm 158 = sl 158 := hold 158 (by kernel_rfl)
                    have f159 : sm 159 = sl 159 := hold 159 (by kernel_rfl)
                    have f160 : sm 160 = sl 160 := hold 160 (by kernel_rfl)
                    have f161 : sm 161 = sl 161 := hold 161 (by kernel_rfl)
                    have f162 : sm 162 = sl 162 := hold 162 (by kernel_rfl)
                    have f163 : sm 163 = sl 163 := hold 163 (by kernel_rfl)
                    have f24 : sm 24 = .bool E := hnew 13 24 (by kernel_rfl)
                    have f117 : sm 117 = .bool false := hnew 0 117 (by kernel_rfl)
                    have f118 : sm 118 = .bool false := hnew 1 118 (by kernel_rfl)
                    have f119 : sm 119 = .slice (some ⟨ub, uo, none⟩) un ucap := hnew 2 119 (by kernel_rfl)
                    have f120 : sm 120 = .int .i64 (k : Int) := hnew 3 120 (by kernel_rfl)
                    have f121 : sm 121 = .pointer (some ⟨ub, uo + k, none⟩) := hnew 4 121 (by kernel_rfl)
                    have f122 : sm 122 = .string ⟨us.toArray⟩ := hnew 5 122 (by kernel_rfl)
                    have f124 : sm 124 = .int .i64 ((0 : Nat) : Int) := hnew 7 124 (by kernel_rfl)
                    have f127 : sm 127 = .string ⟨#[97]⟩ := hnew 10 127 (by kernel_rfl)
                    have f128 : sm 128 = .bool E := hnew 11 128 (by kernel_rfl)
                    have f129 : sm 129 = .bool E := hnew 12 129 (by kernel_rfl)
                    change Exit.inBlock _ _ .normal ⟨#[sm 0, sm 1, sm 2, sm 3, sm 4, sm 5, sm 6, sm 7, sm 8, sm 9, sm 10, sm 11, sm 12, sm 13, sm 14, sm 15, sm 16, sm 17, sm 18, sm 19, sm 20, sm 21, sm 22, sm 23, sm 24, sm 25, sm 26, sm 27, sm 28, sm 29, sm 30, sm 31, sm 32, sm 33, sm 34, sm 35, sm 36, sm 37, sm 38, sm 39, sm 40, sm 41, sm 42, sm 43, sm 44, sm 45, sm 46, sm 47, sm 48, sm 49, sm 50, sm 51, sm 52, sm 53, sm 54, sm 55, sm 56, sm 57, sm 58, sm 59, sm 60, sm 61, sm 62, sm 63, sm 64, sm 65, sm 66, sm 67, sm 68, sm 69, sm 70, sm 71, sm 72, sm 73, sm 74, sm 75, sm 76, sm 77, sm 78, sm 79, sm 80, sm 81, sm 82, sm 83, sm 84, sm 85, sm 86, sm 87, sm 88, sm 89, sm 90, sm 91, sm 92, sm 93, sm 94, sm 95, sm 96, sm 97, sm 98, sm 99, sm 100, sm 101, sm 102, sm 103, sm 104, sm 105, sm 106, sm 107, sm 108, sm 109, sm 110, sm 111, sm 112, sm 113, sm 114, sm 115, sm 116, sm 117, sm 118, sm 119, sm 120, sm 121, sm 122, sm 123, sm 124, sm 125, sm 126, sm 127, sm 128, sm 129, sm 130, sm 131, sm 132, sm 133, sm 134, sm 135, sm 136, sm 137, sm 138, sm 139, sm 140, sm 141, sm 142, sm 143, sm 144, sm 145, sm 146, sm 147, sm 148, sm 149, sm 150, sm 151, sm 152, sm 153, sm 154, sm 155, sm 156, sm 157, sm 158, sm 159, sm 160, sm 161, sm 162, sm 163], _⟩ _
                    simp only [f0, f1, f2, f3, f4, f5, f6, f7, f8, f9, f10, f11, f12, f13, f14, f15, f16, f17, f18, f19, f20, f21, f22, f23, f25, f26, f27, f28, f29, f30, f31, f32, f33, f34, f35, f36, f37, f38, f39, f40, f41, f42, f43, f44, f45, f46, f47, f48, f49, f50, f51, f52, f53, f54, f55, f56, f57, f58, f59, f60, f61, f62, f63, f64, f65, f66, f67, f68, f69, f70, f71, f72, f73, f74, f75, f76, f77, f78, f79, f80, f81, f82, f83, f84, f85, f86, f87, f88, f89, f90, f91, f92, f93, f94, f95, f96, f97, f98, f99, f100, f101, f102, f103, f104, f105, f106, f107, f108, f109, f110, f111, f112, f113, f114, f115, f116, f130, f131, f132, f133, f134, f135, f136, f137, f138, f139, f140, f141, f142, f143, f144, f145, f146, f147, f148, f149, f150, f151, f152, f153, f154, f155, f156, f157, f158, f159, f160, f161, f162, f163, f24, f117, f118, f119, f120, f121, f122, f124, f127, f128, f129]
                    clear hold hnew
                    have HE6 := Lib.hid (HE5.out.trans hEr)
                    clear hEr
                    go_wp2
                    go_roundw
                    case rel => exact ⟨k + 1, E, by go_num, rfl, by omega, Lib.hid (by rw [HTK.out]; rfl), HE6⟩
                    case measure => simp [intOf]; omega
                  · go_upto_region 26 with fail
                    refine wp_region_slots hmix [fun v _ => v = .bool true, fun v _ => v = .bool true, fun _ _ => True, fun _ _ => True, fun _ _ => True, fun _ _ => True, fun _ _ => True, fun _ _ => True, fun _ _ => True, fun _ _ => True, fun _ _ => True, fun _ _ => True, fun v _ => v = .bool true, fun v _ => v = .bool true]
                      164 rfl (by kernel_rfl) ⟨mono_eq _, mono_eq _, mono_true, mono_true, mono_true, mono_true, mono_true, mono_true, mono_true, mono_true, mono_true, mono_true, mono_eq _, mono_eq _, trivial⟩ ?_ ?_
                    · refine ops_cons 0 ?_ (ops_cons 1 ?_ (ops_cons 2 ?_ (ops_cons 3 ?_ (ops_cons 4 ?_ (ops_cons 5 ?_ (ops_cons 6 ?_ (ops_cons 7 ?_ (ops_cons 8 ?_ (ops_cons 9 ?_ (ops_cons 10 ?_ (ops_cons 11 ?_ (ops_cons 12 ?_ (ops_cons 13 ?_ (ops_nil 14))))))))))))))
                      · refine op_value fun a w c => ⟨(wanted_plain rfl), _, run_move _ rfl w, (c.was 24 (by kernel_rfl) rfl)⟩
                      · refine op_value fun a w c => ⟨(wanted_plain rfl), _, run_move _ rfl w, (c.new 0 117 (by kernel_rfl) (by kernel_rfl))⟩
                      · refine op_skip fun a w c => ⟨(wanted_no rfl (by kernel_rfl) (c.new 1 118 (by kernel_rfl) (by kernel_rfl)) (by decide)), trivial⟩
                      · refine op_skip fun a w c => ⟨(wanted_no rfl (by kernel_rfl) (c.new 1 118 (by kernel_rfl) (by kernel_rfl)) (by decide)), trivial⟩
                      · refine op_skip fun a w c => ⟨(wanted_no rfl (by kernel_rfl) (c.new 1 118 (by kernel_rfl) (by kernel_rfl)) (by decide)), trivial⟩
                      · refine op_skip fun a w c => ⟨(wanted_no rfl (by kernel_rfl) (c.new 1 118 (by kernel_rfl) (by kernel_rfl)) (by decide)), trivial⟩
                      · refine op_skip fun a w c => ⟨(wanted_no rfl (by kernel_rfl) (c.new 1 118 (by kernel_rfl) (by kernel_rfl)) (by decide)), trivial⟩
                      · refine op_skip fun a w c => ⟨(wanted_no rfl (by kernel_rfl) (c.new 1 118 (by kernel_rfl) (by kernel_rfl)) (by decide)), trivial⟩
                      · refine op_skip fun a w c => ⟨(wanted_no rfl (by kernel_rfl) (c.new 1 118 (by kernel_rfl) (by kernel_rfl)) (by decide)), trivial⟩
                      · refine op_skip fun a w c => ⟨(wanted_no rfl (by kernel_rfl) (c.new 1 118 (by kernel_rfl) (by kernel_rfl)) (by decide)), trivial⟩
                      · refine op_skip fun a w c => ⟨(wanted_no rfl (by kernel_rfl) (c.new 1 118 (by kernel_rfl) (by kernel_rfl)) (by decide)), trivial⟩
                      · refine op_skip fun a w c => ⟨(wanted_no rfl (by kernel_rfl) (c.new 1 118 (by kernel_rfl) (by kernel_rfl)) (by decide)), trivial⟩
                      · refine op_value fun a w c => ⟨(wanted_plain rfl), _, run_pick_true rfl (c.new 1 118 (by kernel_rfl) (by kernel_rfl)) w, (evc a _)⟩
                      · refine op_value fun a w c => ⟨(wanted_plain rfl), _, run_assign _ rfl w, (c.new 12 129 (by kernel_rfl) (by kernel_rfl))⟩
                    intro sm w6 hEr hold hnew
                    have f0 : sm 0 = sl 0 := hold 0 (by kernel_rfl)
                    have f1 : sm 1 = sl 1 := hold 1 (by kernel_rfl)
                    have f2 : sm 2 = sl 2 := hold 2 (by kernel_rfl)
                    have f3 : sm 3 = .int .i64 c := hold 3 (by kernel_rfl)
                    have f4 : sm 4 = sl 4 := hold 4 (by kernel_rfl)
                    have f5 : sm 5 = sl 5 := hold 5 (by kernel_rfl)
                    have f6 : sm 6 = sl 6 := hold 6 (by kernel_rfl)
                    have f7 : sm 7 = sl 7 := hold 7 (by kernel_rfl)
                    have f8 : sm 8 = sl 8 := hold 8 (by kernel_rfl)
                    have f9 : sm 9 = sl 9 := hold 9 (by kernel_rfl)
                    have f10 : sm 10 = sl 10 := hold 10 (by kernel_rfl)
                    have f11 : sm 11 = sl 11 := hold 11 (by kernel_rfl)
                    have f12 : sm 12 = sl 12 := hold 12 (by kernel_rfl)
                    have f13 : sm 13 = sl 13 := hold 13 (by kernel_rfl)
                    have f14 : sm 14 = .pointer (some ⟨gx, 0, none⟩) := hold 14 (by kernel_rfl)
                    have f15 : sm 15 = sl 15 := hold 15 (by kernel_rfl)
                    have f16 : sm 16 = sl 16 := hold 16 (by kernel_rfl)
                    have f17 : sm 17 = .slice (some ⟨gr, 0, none⟩) 3 3 := hold 17 (by kernel_rfl)
                    have f18 : sm 18 = .int .i64 vk := hold 18 (by kernel_rfl)
                    have f19 : sm 19 = .int .i64 0 := hold 19 (by kernel_rfl)
                    have f20 : sm 20 = .pointer (some ⟨g1, 0, none⟩) := hold 20 (by kernel_rfl)
                    have f21 : sm 21 = .int .i64 0 := hold 21 (by kernel_rfl)
                    have f22 : sm 22 = .slice (some ⟨ub, uo, none⟩) un ucap := hold 22 (by kernel_rfl)
                    have f23 : sm 23 = .int .i64 ((0 : Nat) : Int) := hold 23 (by kernel_rfl)
                    have f25 : sm 25 = .int .i64 (k : Int) := hold 25 (by kernel_rfl)
                    have f26 : sm 26 = sl 26 := hold 26 (by kernel_rfl)
                    have f27 : sm 27 = sl 27 := hold 27 (by kernel_rfl)
                    have f28 : sm 28 = sl 28 := hold 28 (by kernel_rfl)
                    have f29 : sm 29 = sl 29 := hold 29 (by kernel_rfl)
                    have f30 : sm 30 = sl 30 := hold 30 (by kernel_rfl)
                    have f31 : sm 31 = sl 31 := hold 31 (by kernel_rfl)
                    have f32 : sm 32 = sl 32 := hold 32 (by kernel_rfl)
                    have f33 : sm 33 = sl 33 := hold 33 (by kernel_rfl)
                    have f34 : sm 34 = sl 34 := hold 34 (by kernel_rfl)
                    have f35 : sm 35 = sl 35 := hold 35 (by kernel_rfl)
                    have f36 : sm 36 = sl 36 := hold 36 (by kernel_rfl)
                    have f37 : sm 37 = sl 37 := hold 37 (by kernel_rfl)
                    have f38 : sm 38 = sl 38 := hold 38 (by kernel_rfl)
                    have f39 : sm 39 = sl 39 := hold 39 (by kernel_rfl)
                    have f40 : sm 40 = sl 40 := hold 40 (by kernel_rfl)
                    have f41 : sm 41 = sl 41 := hold 41 (by kernel_rfl)
                    have f42 : sm 42 = sl 42 := hold 42 (by kernel_rfl)
                    have f43 : sm 43 = sl 43 := hold 43 (by kernel_rfl)
                    have f44 : sm 44 = sl 44 := hold 44 (by kernel_rfl)
                    have f45 : sm 45 = sl 45 := hold 45 (by kernel_rfl)
                    have f46 : sm 46 = sl 46 := hold 46 (by kernel_rfl)
                    have f47 : sm 47 = sl 47 := hold 47 (by kernel_rfl)
                    have f48 : sm 48 = sl 48 := hold 48 (by kernel_rfl)
                    have f49 : sm 49 = sl 49 := hold 49 (by kernel_rfl)
                    have f50 : sm 50 = sl 50 := hold 50 (by kernel_rfl)
                    have f51 : sm 51 = sl 51 := hold 51 (by kernel_rfl)
                    have f52 : sm 52 = sl 52 := hold 52 (by kernel_rfl)
                    have f53 : sm 53 = sl 53 := hold 53 (by kernel_rfl)
                    have f54 : sm 54 = sl 54 := hold 54 (by kernel_rfl)
                    have f55 : sm 55 = sl 55 := hold 55 (by kernel_rfl)
                    have f56 : sm 56 = sl 56 := hold 56 (by kernel_rfl)
                    have f57 : sm 57 = sl 57 := hold 57 (by kernel_rfl)
                    have f58 : sm 58 = sl 58 := hold 58 (by kernel_rfl)
                    have f59 : sm 59 = sl 59 := hold 59 (by kernel_rfl)
                    have f60 : sm 60 = sl 60 := hold 60 (by kernel_rfl)
                    have f61 : sm 61 = sl 61 := hold 61 (by kernel_rfl)
                    have f62 : sm 62 = sl 62 := hold 62 (by kernel_rfl)
                    have f63 : sm 63 = sl 63 := hold 63 (by kernel_rfl)
                    have f64 : sm 64 = sl 64 := hold 64 (by kernel_rfl)
                    have f65 : sm 65 = sl 65 := hold 65 (by kernel_rfl)
                    have f66 : sm 66 = sl 66 := hold 66 (by kernel_rfl)
                    have f67 : sm 67 = sl 67 := hold 67 (by kernel_rfl)
                    have f68 : sm 68 = sl 68 := hold 68 (by kernel_rfl)
                    have f69 : sm 69 = sl 69 := hold 69 (by kernel_rfl)
                    have f70 : sm 70 = .tuple #[.agg #[.int .i64 vk, .int .i64 vn, .string vs_], .int .i64 0] := hold 70 (by kernel_rfl)
                    have f71 : sm 71 = .agg #[.int .i64 x.kind, .string ⟨x.s.toArray⟩, .int .i64 x.n, .slice x.A x.kids.length x.cap] := hold 71 (by kernel_rfl)
                    have f72 : sm 72 = sl 72 := hold 72 (by kernel_rfl)
                    have f73 : sm 73 = .slice (some ⟨gr, 0, none⟩) 3 3 := hold 73 (by kernel_rfl)
                    have f74 : sm 74 = .tuple #[.agg #[.int .i64 vk, .int .i64 vn, .string vs_], .int .i64 0] := hold 74 (by kernel_rfl)
                    have f75 : sm 75 = .agg #[.int .i64 vk, .int .i64 vn, .string vs_] := hold 75 (by kernel_rfl)
                    have f76 : sm 76 = .int .i64 0 := hold 76 (by kernel_rfl)
                    have f77 : sm 77 = .int .i64 0 := hold 77 (by kernel_rfl)
                    have f78 : sm 78 = .bool false := hold 78 (by kernel_rfl)
                    have f79 : sm 79 = sl 79 := hold 79 (by kernel_rfl)
                    have f80 : sm 80 = sl 80 := hold 80 (by kernel_rfl)
                    have f81 : sm 81 = sl 81 := hold 81 (by kernel_rfl)
                    have f82 : sm 82 = sl 82 := hold 82 (by kernel_rfl)
                    have f83 : sm 83 = sl 83 := hold 83 (by kernel_rfl)
                    have f84 : sm 84 = sl 84 := hold 84 (by kernel_rfl)
                    have f85 : sm 85 = sl 85 := hold 85 (by kernel_rfl)
                    have f86 : sm 86 = sl 86 := hold 86 (by kernel_rfl)
                    have f87 : sm 87 = sl 87 := hold 87 (by kernel_rfl)
                    have f88 : sm 88 = sl 88 := hold 88 (by kernel_rfl)
                    have f89 : sm 89 = .int .i64 0 := hold 89 (by kernel_rfl)
                    have f90 : sm 90 = .bool false := hold 90 (by kernel_rfl)
                    have f91 : sm 91 = sl 91 := hold 91 (by kernel_rfl)
                    have f92 : sm 92 = sl 92 := hold 92 (by kernel_rfl)
                    have f93 : sm 93 = sl 93 := hold 93 (by kernel_rfl)
                    have f94 : sm 94 = sl 94 := hold 94 (by kernel_rfl)
                    have f95 : sm 95 = sl 95 := hold 95 (by kernel_rfl)
                    have f96 : sm 96 = sl 96 := hold 96 (by kernel_rfl)
                    have f97 : sm 97 = sl 97 := hold 97 (by kernel_rfl)
                    have f98 : sm 98 = sl 98 := hold 98 (by kernel_rfl)
                    have f99 : sm 99 = sl 99 := hold 99 (by kernel_rfl)
                    have f100 : sm 100 = sl 100 := hold 100 (by kernel_rfl)
                    have f101 : sm 101 = sl 101 := hold 101 (by kernel_rfl)
                    have f102 : sm 102 = sl 102 := hold 102 (by kernel_rfl)
                    have f103 : sm 103 = sl 103 := hold 103 (by kernel_rfl)
                    have f104 : sm 104 = sl 104 := hold 104 (by kernel_rfl)
                    have f105 : sm 105 = .agg #[.int .i64 x.kind, .string ⟨x.s.toArray⟩, .int .i64 x.n, .slice x.A x.kids.length x.cap] := hold 105 (by kernel_rfl)
                    have f106 : sm 106 = .slice (some ⟨ub, uo, none⟩) un ucap := hold 106 (by kernel_rfl)
                    have f107 : sm 107 = .int .i64 ((0 : Nat) : Int) := hold 107 (by kernel_rfl)
                    have f108 : sm 108 = .bool true := hold 108 (by kernel_rfl)
                    have f109 : sm 109 = u109 := hold 109 (by kernel_rfl)
                    have f110 : sm 110 = u110 := hold 110 (by kernel_rfl)
                    have f111 : sm 111 = .int .i64 (k : Int) := hold 111 (by kernel_rfl)
                    have f112 : sm 112 = .slice (some ⟨ub, uo, none⟩) un ucap := hold 112 (by kernel_rfl)
                    have f113 : sm 113 = .int .i64 (un : Int) := hold 113 (by kernel_rfl)
                    have f114 : sm 114 = .bool true := hold 114 (by kernel_rfl)
                    have f115 : sm 115 = u115 := hold 115 (by kernel_rfl)
                    have f116 : sm 116 = u116 := hold 116 (by kernel_rfl)
                    have f130 : sm 130 = u130 := hold 130 (by kernel_rfl)
                    have f131 : sm 131 = u131 := hold 131 (by kernel_rfl)
                    have f132 : sm 132 = u132 := hold 132 (by kernel_rfl)
                    have f133 : sm 133 = u133 := hold 133 (by kernel_rfl)
                    have f134 : sm 134 = u134 := hold 134 (by kernel_rfl)
                    have f135 : sm 135 = u135 := hold 135 (by kernel_rfl)
                    have f136 : sm 136 = u136 := hold 136 (by kernel_rfl)
                    have f137 : sm 137 = sl 137 := hold 137 (by kernel_rfl)
                    have f138 : sm 138 = sl 138 := hold 138 (by kernel_rfl)
                    have f139 : sm 139 = sl 139 := hold 139 (by kernel_rfl)
                    have f140 : sm 140 = sl 140 := hold 140 (by kernel_rfl)
                    have f141 : sm 141 = sl 141 := hold 141 (by kernel_rfl)
                    have f142 : sm 142 = sl 142 := hold 142 (by kernel_rfl)
                    have f143 : sm 143 = sl 143 := hold 143 (by kernel_rfl)
                    have f144 : sm 144 = sl 144 := hold 144 (by kernel_rfl)
                    have f145 : sm 145 = sl 145 := hold 145 (by kernel_rfl)
                    have f146 : sm 146 = sl 146 := hold 146 (by kernel_rfl)
                    have f147 : sm 147 = sl 147 := hold 147 (by kernel_rfl)
                    have f148 : sm 148 = sl 148 := hold 148 (by kernel_rfl)
                    have f149 : sm 149 = sl 149 := hold 149 (by kernel_rfl)
                    have f150 : sm 150 = sl 150 := hold 150 (by kernel_rfl)
                    have f151 : sm 151 = sl 151 := hold 151 (by kernel_rfl)
                    have f152 : sm 152 = sl 152 := hold 152 (by kernel_rfl)
                    have f153 : sm 153 = sl 153 := hold 153 (by kernel_rfl)
                    have f154 : sm 154 = sl 154 := hold 154 (by kernel_rfl)
                    have f155 : sm 155 = sl 155 := hold 155 (by kernel_rfl)
                    have f156 : sm 156 = sl 156 := hold 156 (by kernel_rfl)
                    have f157 : sm 157 = sl 157 := hold 157 (by kernel_rfl)
                    have f158 : sm 158 = sl 158 := hold 158 (by kernel_rfl)
                    have f159 : sm 159 = sl 159 := hold 159 (by kernel_rfl)
                    have f160 : sm 160 = sl 160 := hold 160 (by kernel_rfl)
                    have f161 : sm 161 = sl 161 := hold 161 (by kernel_rfl)
                    have f162 : sm 162 = sl 162 := hold 162 (by kernel_rfl)
                    have f163 : sm 163 = sl 163 := hold 163 (by kernel_rfl)
                    have f24 : sm 24 = .bool true := hnew 13 24 (by kernel_rfl)
                    have f117 : sm 117 = .bool true := hnew 0 117 (by kernel_rfl)
                    have f118 : sm 118 = .bool true := hnew 1 118 (by kernel_rfl)
                    have f129 : sm 129 = .bool true := hnew 12 129 (by kernel_rfl)
                    change Exit.inBlock _ _ .normal ⟨#[sm 0, sm 1, sm 2, sm 3, sm 4, sm 5, sm 6, sm 7, sm 8, sm 9, sm 10, sm 11, sm 12, sm 13, sm 14, sm 15, sm 16, sm 17, sm 18, sm 19, sm 20, sm 21, sm 22, sm 23, sm 24, sm 25, sm 26, sm 27, sm 28, sm 29, sm 30, sm 31, sm 32, sm 33, sm 34, sm 35, sm 36, sm 37, sm 38, sm 39, sm 40, sm 41, sm 42, sm 43, sm 44, sm 45, sm 46, sm 47, sm 48, sm 49, sm 50, sm 51, sm 52, sm 53, sm 54, sm 55, sm 56, sm 57, sm 58, sm 59, sm 60, sm 61, sm 62, sm 63, sm 64, sm 65, sm 66, sm 67, sm 68, sm 69, sm 70, sm 71, sm 72, sm 73, sm 74, sm 75, sm 76, sm 77, sm 78, sm 79, sm 80, sm 81, sm 82, sm 83, sm 84, sm 85, sm 86, sm 87, sm 88, sm 89, sm 90, sm 91, sm 92, sm 93, sm 94, sm 95, sm 96, sm 97, sm 98, sm 99, sm 100, sm 101, sm 102, sm 103, sm 104, sm 105, sm 106, sm 107, sm 108, sm 109, sm 110, sm 111, sm 112, sm 113, sm 114, sm 115, sm 116, sm 117, sm 118, sm 119, sm 120, sm 121, sm 122, sm 123, sm 124, sm 125, sm 126, sm 127, sm 128, sm 129, sm 130, sm 131, sm 132, sm 133, sm 134, sm 135, sm 136, sm 137, sm 138, sm 139, sm 140, sm 141, sm 142, sm 143, sm 144, sm 145, sm 146, sm 147, sm 148, sm 149, sm 150, sm 151, sm 152, sm 153, sm 154, sm 155, sm 156, sm 157, sm 158, sm 159, sm 160, sm 161, sm 162, sm 163], _⟩ _
                    simp only [f0, f1, f2, f3, f4, f5, f6, f7, f8, f9, f10, f11, f12, f13, f14, f15, f16, f17, f18, f19, f20, f21, f22, f23, f25, f26, f27, f28, f29, f30, f31, f32, f33, f34, f35, f36, f37, f38, f39, f40, f41, f42, f43, f44, f45, f46, f47, f48, f49, f50, f51, f52, f53, f54, f55, f56, f57, f58, f59, f60, f61, f62, f63, f64, f65, f66, f67, f68, f69, f70, f71, f72, f73, f74, f75, f76, f77, f78, f79, f80, f81, f82, f83, f84, f85, f86, f87, f88, f89, f90, f91, f92, f93, f94, f95, f96, f97, f98, f99, f100, f101, f102, f103, f104, f105, f106, f107, f108, f109, f110, f111, f112, f113, f114, f115, f116, f130, f131, f132, f133, f134, f135, f136, f137, f138, f139, f140, f141, f142, f143, f144, f145, f146, f147, f148, f149, f150, f151, f152, f153, f154, f155, f156, f157, f158, f159, f160, f161, f162, f163, f24, f117, f118, f129]
                    clear hold hnew
                    have HE6 := Lib.hid (HE5.out.trans hEr)
                    clear hEr
                    go_wp2
                    go_roundw
                    case rel => exact ⟨k + 1, true, by go_num, rfl, by omega, Lib.hid (by rw [HTK.out]; rfl), HE6⟩
                    case measure => simp [intOf]; omega
                · have hku : k = un := by omega
                  have j2 : ¬ ((k : Int) < (un : Int)) := by omega
                  have HFF : Hid (U.any (· == [97]) = F) := Lib.hid (by
                    have := HF.out
                    rw [List.take_of_length_le (by rw [HS5.out.u.len]; omega)] at this
                    exact this.symm)
                  clear hku
                  cases F
                  · obtain ⟨k0, k1, k2, k3, k4, k5, f0, f1, f2, f3, f4, f5⟩ := row_cells HS5.out.row
                    go_wp2_with (first
                      | ((with_reducible refine (HN.out _ _).mono ?_); rintro r w6 ⟨rfl, hE6⟩; clear k0 k1 k2 k3 k4 k5 f0 f1 f2 f3 f4 f5; have HS6 := Lib.hid (HS5.out.ev hE6); obtain ⟨k0, k1, k2, k3, k4, k5, f0, f1, f2, f3, f4, f5⟩ := row_cells HS6.out.row))
                    go_roundw
                    case rel => exact ⟨1, c, x1, by go_num, by omega, Lib.hid (by rw [HFF.out]; simp), Lib.hid (by rw [HX1.out]; simp), Lib.hid (HS6.out.put (row_put0_but _ _ _) (row_put0 HS6.out.row c) HN1.out HN2.out HUB.out HN4.out)⟩
                    case measure => simp [intOf]
                  · go_wp2
                    go_roundw
                    case rel => exact ⟨1, x0, x1, by go_num, by omega, Lib.hid (by rw [HX0.out, HFF.out]; simp), Lib.hid (by rw [HX1.out]; simp), HS5⟩
                    case measure => simp [intOf]
            · go_wp2
              go_loopw [24, 25] (fun hv nv w5 => ∃ (k : Nat) (F : Bool), nv = .int .i64 (k : Int) ∧ hv = .bool F ∧ k ≤ un ∧ Hid (F = (U.take k).any (· == [98])) ∧ Hid (Ev wr w5)) (fun _ nv _ => un - (intOf nv).toNat)
              case atStart => exact ⟨0, false, rfl, rfl, Nat.zero_le _, Lib.hid (by simp), Lib.hid (Ev.refl _)⟩
              case round =>
                rename_i w5
                obtain ⟨k, F, rfl, rfl, hk, HF, HE5⟩ := hrel
                have HS5 := Lib.hid (HSS.out.ev HE5.out)
                by_cases hlt : k < un
                · obtain ⟨us, hx⟩ := HS5.out.u.at hlt
                  obtain ⟨ub, uo, hua, hub, uc⟩ := Ss.cell HS5.out.u hx
                  have HTK : Hid ((U.take (k + 1)).any (· == [98]) = (F || (us == [98]))) := Lib.hid (by
                    obtain ⟨hk2, e⟩ := List.getElem?_eq_some_iff.1 hx
                    rw [List.take_succ_eq_append_getElem hk2, List.any_append, ← HF.out, e]
                    simp)
                  have j1 : (0 : Int) ≤ (k : Int) := by omega
                  have j2 : (k : Int) < (un : Int) := by omega
                  clear hx
                  subst hua
                  cases F
                  · generalize hE_ : (us == [98]) = E at *
                    go_upto_region 26 with fail
                    refine wp_region_slots hmix [fun v _ => v = .bool false, fun v _ => v = .bool false, fun v _ => v = .slice (some ⟨ub, uo, none⟩) un ucap, fun v _ => v = .int .i64 (k : Int), fun v _ => v = .pointer (some ⟨ub, uo + k, none⟩), fun v _ => v = .string ⟨us.toArray⟩, ColsF, fun v _ => v = .int .i64 ((1 : Nat) : Int), ColAt 1, ColAt 1, fun v _ => v = .string ⟨#[98]⟩, fun v _ => v = .bool E, fun v _ => v = .bool E, fun v _ => v = .bool E]
                      164 rfl (by kernel_rfl) ⟨mono_eq _, mono_eq _, mono_eq _, mono_eq _, mono_eq _, mono_eq _, ColsF.mono, mono_eq _, ColAt.mono _, ColAt.mono _, mono_eq _, mono_eq _, mono_eq _, mono_eq _, trivial⟩ ?_ ?_
                    · refine ops_cons 0 ?_ (ops_cons 1 ?_ (ops_cons 2 ?_ (ops_cons 3 ?_ (ops_cons 4 ?_ (ops_cons 5 ?_ (ops_cons 6 ?_ (ops_cons 7 ?_ (ops_cons 8 ?_ (ops_cons 9 ?_ (ops_cons 10 ?_ (ops_cons 11 ?_ (ops_cons 12 ?_ (ops_cons 13 ?_ (ops_nil 14))))))))))))))
                      · refine op_value fun a w c => ⟨(wanted_plain rfl), _, run_move _ rfl w, (c.was 24 (by kernel_rfl) rfl)⟩
                      · refine op_value fun a w c => ⟨(wanted_plain rfl), _, run_move _ rfl w, (c.new 0 117 (by kernel_rfl) (by kernel_rfl))⟩
                      · refine op_value fun a w c => ⟨(wanted_yes rfl (by kernel_rfl) (c.new 1 118 (by kernel_rfl) (by kernel_rfl))), _, run_move _ rfl w, (c.was 22 (by kernel_rfl) rfl)⟩
                      · refine op_value fun a w c => ⟨(wanted_yes rfl (by kernel_rfl) (c.new 1 118 (by kernel_rfl) (by kernel_rfl))), _, run_move _ rfl w, (c.was 25 (by kernel_rfl) rfl)⟩
                      · refine op_value fun a wq c => ⟨(wanted_yes rfl (by kernel_rfl) (c.new 1 118 (by kernel_rfl) (by kernel_rfl))), .pointer (some ⟨ub, uo + k, none⟩), ?_, rfl⟩
                        have e_0 : a.eval (.tmp 119) = .slice (some ⟨ub, uo, none⟩) un ucap := (c.new 2 119 (by kernel_rfl) (by kernel_rfl))
                        have e_1 : a.eval (.tmp 120) = .int .i64 (k : Int) := (c.new 3 120 (by kernel_rfl) (by kernel_rfl))
                        generalize a.eval = ρ at e_0 e_1 ⊢
                        simp [execOp, e_0, e_1, go_sem, j1, j2]
                      · refine op_value fun a wq c => ⟨(wanted_yes rfl (by kernel_rfl) (c.new 1 118 (by kernel_rfl) (by kernel_rfl))), .string ⟨us.toArray⟩, ?_, rfl⟩
                        have e_0 : a.eval (.tmp 121) = .pointer (some ⟨ub, uo + k, none⟩) := (c.new 4 121 (by kernel_rfl) (by kernel_rfl))
                        have hc := (c.ev.cell (p := ⟨ub, uo + k, none⟩) hub).trans uc
                        generalize a.eval = ρ at e_0 ⊢
                        simp [execOp, e_0, hc, go_sem]
                      · refine op_call fun a wq c => ⟨(wanted_yes rfl (by kernel_rfl) (c.new 1 118 (by kernel_rfl) (by kernel_rfl))), 6, #[], ?_, ?_⟩
                        · rw [run_call 6 _ _ rfl (by kernel_rfl)]
                          simp
                        · exact HTC.out wq
                      · refine op_value fun a w c => ⟨(wanted_yes rfl (by kernel_rfl) (c.new 1 118 (by kernel_rfl) (by kernel_rfl))), _, run_move _ rfl w, (c.was 23 (by kernel_rfl) rfl)⟩
                      · refine op_value fun a wq c => ?_
                        obtain ⟨g_, cs_, eg_, _, hC_⟩ := (c.got 6 123 (by kernel_rfl) (by kernel_rfl) rfl : ColsF _ _)
                        have e_1 : a.eval (.tmp 124) = .int .i64 ((1 : Nat) : Int) := (c.new 7 124 (by kernel_rfl) (by kernel_rfl))
                        refine ⟨(wanted_yes rfl (by kernel_rfl) (c.new 1 118 (by kernel_rfl) (by kernel_rfl))), .pointer (some ⟨g_, 2, none⟩), ?_, ⟨g_, rfl, hC_⟩⟩
                        generalize a.eval = ρ at eg_ e_1 ⊢
                        simp [execOp, eg_, e_1, go_sem]
                      · refine op_value fun a wq c => ?_
                        obtain ⟨g_, eg_, hC_⟩ := (c.got 8 125 (by kernel_rfl) (by kernel_rfl) rfl : ColAt _ _ _)
                        refine ⟨(wanted_yes rfl (by kernel_rfl) (c.new 1 118 (by kernel_rfl) (by kernel_rfl))), .pointer (some ⟨g_, 2, none⟩), ?_, ⟨g_, rfl, hC_⟩⟩
                        generalize a.eval = ρ at eg_ ⊢
                        simp [execOp, eg_, go_sem]
                      · refine op_value fun a wq c => ?_
                        obtain ⟨g_, eg_, hC_⟩ := (c.got 9 126 (by kernel_rfl) (by kernel_rfl) rfl : ColAt _ _ _)
                        have hc := col_name1 hC_
                        refine ⟨(wanted_yes rfl (by kernel_rfl) (c.new 1 118 (by kernel_rfl) (by kernel_rfl))), .string ⟨#[98]⟩, ?_, rfl⟩
                        generalize a.eval = ρ at eg_ ⊢
                        simp [execOp, eg_, hc, go_sem]
                      · refine op_value fun a w c => ⟨(wanted_yes rfl (by kernel_rfl) (c.new 1 118 (by kernel_rfl) (by kernel_rfl))), .bool E, ?_, rfl⟩
                        have e122 : a.eval (.tmp 122) = .string ⟨us.toArray⟩ := (c.new 5 122 (by kernel_rfl) (by kernel_rfl))
                        have e127 : a.eval (.tmp 127) = .string ⟨#[98]⟩ := (c.new 10 127 (by kernel_rfl) (by kernel_rfl))
                        generalize a.eval = ρ at e122 e127 ⊢
                        simp [execOp, e122, e127, go_sem, hE_]
                      · refine op_value fun a w c => ⟨(wanted_plain rfl), _, run_pick_false rfl (c.new 1 118 (by kernel_rfl) (by kernel_rfl)) w, (c.new 11 128 (by kernel_rfl) (by kernel_rfl))⟩
                      · refine op_value fun a w c => ⟨(wanted_plain rfl), _, run_assign _ rfl w, (c.new 12 129 (by kernel_rfl) (by kernel_rfl))⟩
                    intro sm w6 hEr hold hnew
                    have f0 : sm 0 = sl 0 := hold 0 (by kernel_rfl)
                    have f1 : sm 1 = sl 1 := hold 1 (by kernel_rfl)
                    have f2 : sm 2 = sl 2 := hold 2 (by kernel_rfl)
                    have f3 : sm 3 = .int .i64 c := hold 3 (by kernel_rfl)
                    have f4 : sm 4 = sl 4 := hold 4 (by kernel_rfl)
                    have f5 : sm 5 = sl 5 := hold 5 (by kernel_rfl)
                    have f6 : sm 6 = sl 6 := hold 6 (by kernel_rfl)
                    have f7 : sm 7 = sl 7 := hold 7 (by kernel_rfl)
                    have f8 : sm 8 = sl 8 := hold 8 (by kernel_rfl)
                    have f9 : sm 9 = sl 9 := hold 9 (by kernel_rfl)
                    have f10 : sm 10 = sl 10 := hold 10 (by kernel_rfl)
                    have f11 : sm 11 = sl 11 := hold 11 (by kernel_rfl)
                    have f12 : sm 12 = sl 12 := hold 12 (by kernel_rfl)
                    have f13 : sm 13 = sl 13 := hold 13 (by kernel_rfl)
                    have f14 : sm 14 = .pointer (some ⟨gx, 0, none⟩) := hold 14 (by kernel_rfl)
                    have f15 : sm 15 = sl 15 := hold 15 (by kernel_rfl)
                    have f16 : sm 16 = sl 16 := hold 16 (by kernel_rfl)
                    have f17 : sm 17 = .slice (some ⟨gr, 0, none⟩) 3 3 := hold 17 (by kernel_rfl)
                    have f18 : sm 18 = .int .i64 vk := hold 18 (by kernel_rfl)
                    have f19 : sm 19 = .int .i64 0 := hold 19 (by kernel_rfl)
                    have f20 : sm 20 = .pointer (some ⟨g1, 0, none⟩) := hold 20 (by kernel_rfl)
                    have f21 : sm 21 = .int .i64 0 := hold 21 (by kernel_rfl)
                    have f22 : sm 22 = .slice (some ⟨ub, uo, none⟩) un ucap := hold 22 (by kernel_rfl)
                    have f23 : sm 23 = .int .i64 ((1 : Nat) : Int) := hold 23 (by kernel_rfl)
                    have f25 : sm 25 = .int .i64 (k : Int) := hold 25 (by kernel_rfl)
                    have f26 : sm 26 = sl 26 := hold 26 (by kernel_rfl)
                    have f27 : sm 27 = sl 27 := hold 27 (by kernel_rfl)
                    have f28 : sm 28 = sl 28 := hold 28 (by kernel_rfl)
                    have f29 : sm 29 = sl 29 := hold 29 (by kernel_rfl)
                    have f30 : sm 30 = sl 30 := hold 30 (by kernel_rfl)
                    have f31 : sm 31 = sl 31 := hold 31 (by kernel_rfl)
                    have f32 : sm 32 = sl 32 := hold 32 (by kernel_rfl)
                    have f33 : sm 33 = sl 33 := hold 33 (by kernel_rfl)
                    have f34 : sm 34 = sl 34 := hold 34 (by kernel_rfl)
                    have f35 : sm 35 = sl 35 := hold 35 (by kernel_rfl)
                    have f36 : sm 36 = sl 36 := hold 36 (by kernel_rfl)
                    have f37 : sm 37 = sl 37 := hold 37 (by kernel_rfl)
                    have f38 : sm 38 = sl 38 := hold 38 (by kernel_rfl)
                    have f39 : sm 39 = sl 39 := hold 39 (by kernel_rfl)
                    have f40 : sm 40 = sl 40 := hold 40 (by kernel_rfl)
                    have f41 : sm 41 = sl 41 := hold 41 (by kernel_rfl)
                    have f42 : sm 42 = sl 42 := hold 42 (by kernel_rfl)
                    have f43 : sm 43 = sl 43 := hold 43 (by kernel_rfl)
                    have f44 : sm 44 = sl 44 := hold 44 (by kernel_rfl)
                    have f45 : sm 45 = sl 45 := hold 45 (by kernel_rfl)
                    have f46 : sm 46 = sl 46 := hold 46 (by kernel_rfl)
                    have f47 : sm 47 = sl 47 := hold 47 (by kernel_rfl)
                    have f48 : sm 48 = sl 48 := hold 48 (by kernel_rfl)
                    have f49 : sm 49 = sl 49 := hold 49 (by kernel_rfl)
                    have f50 : sm 50 = sl 50 := hold 50 (by kernel_rfl)
                    have f51 : sm 51 = sl 51 := hold 51 (by kernel_rfl)
                    have f52 : sm 52 = sl 52 := hold 52 (by kernel_rfl)
                    have f53 : sm 53 = sl 53 := hold 53 (by kernel_rfl)
                    have f54 : sm 54 = sl 54 := hold 54 (by kernel_rfl)
                    have f55 : sm 55 = sl 55 := hold 55 (by kernel_rfl)
                    have f56 : sm 56 = sl 56 := hold 56 (by kernel_rfl)
                    have f57 : sm 57 = sl 57 := hold 57 (by kernel_rfl)
                    have f58 : sm 58 = sl 58 := hold 58 (by kernel_rfl)
                    have f59 : sm 59 = sl 59 := hold 59 (by kernel_rfl)
                    have f60 : sm 60 = sl 60 := hold 60 (by kernel_rfl)
                    have f61 : sm 61 = sl 61 := hold 61 (by kernel_rfl)
                    have f62 : sm 62 = sl 62 := hold 62 (by kernel_rfl)
                    have f63 : sm 63 = sl 63 := hold 63 (by kernel_rfl)
                    have f64 : sm 64 = sl 64 := hold 64 (by kernel_rfl)
                    have f65 : sm 65 = sl 65 := hold 65 (by kernel_rfl)
                    have f66 : sm 66 = sl 66 := hold 66 (by kernel_rfl)
                    have f67 : sm 67 = sl 67 := hold 67 (by kernel_rfl)
                    have f68 : sm 68 = sl 68 := hold 68 (by kernel_rfl)
                    have f69 : sm 69 = sl 69 := hold 69 (by kernel_rfl)
                    have f70 : sm 70 = .tuple #[.agg #[.int .i64 vk, .int .i64 vn, .string vs_], .int .i64 0] := hold 70 (by kernel_rfl)
                    have f71 : sm 71 = .agg #[.int .i64 x.kind, .string ⟨x.s.toArray⟩, .int .i64 x.n, .slice x.A x.kids.length x.cap] := hold 71 (by kernel_rfl)
                    have f72 : sm 72 = sl 72 := hold 72 (by kernel_rfl)
                    have f73 : sm 73 = .slice (some ⟨gr, 0, none⟩) 3 3 := hold 73 (by kernel_rfl)
                    have f74 : sm 74 = .tuple #[.agg #[.int .i64 vk, .int .i64 vn, .string vs_], .int .i64 0] := hold 74 (by kernel_rfl)
                    have f75 : sm 75 = .agg #[.int .i64 vk, .int .i64 vn, .string vs_] := hold 75 (by kernel_rfl)
                    have f76 : sm 76 = .int .i64 0 := hold 76 (by kernel_rfl)
                    have f77 : sm 77 = .int .i64 0 := hold 77 (by kernel_rfl)
                    have f78 : sm 78 = .bool false := hold 78 (by kernel_rfl)
                    have f79 : sm 79 = sl 79 := hold 79 (by kernel_rfl)
                    have f80 : sm 80 = sl 80 := hold 80 (by kernel_rfl)
                    have f81 : sm 81 = sl 81 := hold 81 (by kernel_rfl)
                    have f82 : sm 82 = sl 82 := hold 82 (by kernel_rfl)
                    have f83 : sm 83 = sl 83 := hold 83 (by kernel_rfl)
                    have f84 : sm 84 = sl 84 := hold 84 (by kernel_rfl)
                    have f85 : sm 85 = sl 85 := hold 85 (by kernel_rfl)
                    have f86 : sm 86 = sl 86 := hold 86 (by kernel_rfl)
                    have f87 : sm 87 = sl 87 := hold 87 (by kernel_rfl)
                    have f88 : sm 88 = sl 88 := hold 88 (by kernel_rfl)
                    have f89 : sm 89 = .int .i64 0 := hold 89 (by kernel_rfl)
                    have f90 : sm 90 = .bool false := hold 90 (by kernel_rfl)
                    have f91 : sm 91 = sl 91 := hold 91 (by kernel_rfl)
                    have f92 : sm 92 = sl 92 := hold 92 (by kernel_rfl)
                    have f93 : sm 93 = sl 93 := hold 93 (by kernel_rfl)
                    have f94 : sm 94 = sl 94 := hold 94 (by kernel_rfl)
                    have f95 : sm 95 = sl 95 := hold 95 (by kernel_rfl)
                    have f96 : sm 96 = sl 96 := hold 96 (by kernel_rfl)
                    have f97 : sm 97 = sl 97 := hold 97 (by kernel_rfl)
                    have f98 : sm 98 = sl 98 := hold 98 (by kernel_rfl)
                    have f99 : sm 99 = sl 99 := hold 99 (by kernel_rfl)
                    have f100 : sm 100 = sl 100 := hold 100 (by kernel_rfl)
                    have f101 : sm 101 = sl 101 := hold 101 (by kernel_rfl)
                    have f102 : sm 102 = sl 102 := hold 102 (by kernel_rfl)
                    have f103 : sm 103 = sl 103 := hold 103 (by kernel_rfl)
                    have f104 : sm 104 = sl 104 := hold 104 (by kernel_rfl)
                    have f105 : sm 105 = .agg #[.int .i64 x.kind, .string ⟨x.s.toArray⟩, .int .i64 x.n, .slice x.A x.kids.length x.cap] := hold 105 (by kernel_rfl)
                    have f106 : sm 106 = .slice (some ⟨ub, uo, none⟩) un ucap := hold 106 (by kernel_rfl)
                    have f107 : sm 107 = .int .i64 ((1 : Nat) : Int) := hold 107 (by kernel_rfl)
                    have f108 : sm 108 = .bool true := hold 108 (by kernel_rfl)
                    have f109 : sm 109 = u109 := hold 109 (by kernel_rfl)
                    have f110 : sm 110 = u110 := hold 110 (by kernel_rfl)
                    have f111 : sm 111 = .int .i64 (k : Int) := hold 111 (by kernel_rfl)
                    have f112 : sm 112 = .slice (some ⟨ub, uo, none⟩) un ucap := hold 112 (by kernel_rfl)
                    have f113 : sm 113 = .int .i64 (un : Int) := hold 113 (by kernel_rfl)
                    have f114 : sm 114 = .bool true := hold 114 (by kernel_rfl)
                    have f115 : sm 115 = u115 := hold 115 (by kernel_rfl)
                    have f116 : sm 116 = u116 := hold 116 (by kernel_rfl)
                    have f130 : sm 130 = u130 := hold 130 (by kernel_rfl)
                    have f131 : sm 131 = u131 := hold 131 (by kernel_rfl)
                    have f132 : sm 132 = u132 := hold 132 (by kernel_rfl)
                    have f133 : sm 133 = u133 := hold 133 (by kernel_rfl)
                    have f134 : sm 134 = u134 := hold 134 (by kernel_rfl)
                    have f135 : sm 135 = u135 := hold 135 (by kernel_rfl)
                    have f136 : sm 136 = u136 := hold 136 (by kernel_rfl)
                    have f137 : sm 137 = sl 137 := hold 137 (by kernel_rfl)
                    have f138 : sm 138 = sl 138 := hold 138 (by kernel_rfl)
                    have f139 : sm 139 = sl 139 := hold 139 (by kernel_rfl)
                    have f140 : sm 140 = sl 140 := hold 140 (by kernel_rfl)
                    have f141 : sm 141 = sl 141 := hold 141 (by kernel_rfl)
                    have f142 : sm 142 = sl 142 := hold 142 (by kernel_rfl)
                    have f143 : sm 143 = sl 143 := hold 143 (by kernel_rfl)
                    have f144 : sm 144 = sl 144 := hold 144 (by kernel_rfl)
                    have f145 : sm 145 = sl 145 := hold 145 (by kernel_rfl)
                    have f146 : sm 146 = sl 146 := hold 146 (by kernel_rfl)
                    have f147 : sm 147 = sl 147 := hold 147 (by kernel_rfl)
                    have f148 : sm 148 = sl 148 := hold 148 (by kernel_rfl)
                    have f149 : sm 149 = sl 149 := hold 149 (by kernel_rfl)
                    have f150 : sm 150 = sl 150 := hold 150 (by kernel_rfl)
                    have f151 : sm 151 = sl 151 := hold 151 (by kernel_rfl)
                    have f152 : sm 152 = sl 152 := hold 152 (by kernel_rfl)
                    have f153 : sm 153 = sl 153 := hold 153 (by kernel_rfl)
                    have f154 : sm 154 = sl 154 := hold 154 (by kernel_rfl)
                    have f155 : sm 155 = sl 155 := hold 155 (by kernel_rfl)
                    have f156 : sm 156 = sl 156 := hold 156 (by kernel_rfl)
                    have f157 : sm 157 = sl 157 := hold 157 (by kernel_rfl)
                    have f158 : sm 158 = sl 158 := hold 158 (by kernel_rfl)
                    have f159 : sm 159 = sl 159 := hold 159 (by kernel_rfl)
                    have f160 : sm 160 = sl 160 := hold 160 (by kernel_rfl)
                    have f161 : sm 161 = sl 161 := hold 161 (by kernel_rfl)
                    have f162 : sm 162 = sl 162 := hold 162 (by kernel_rfl)
                    have f163 : sm 163 = sl 163 := hold 163 (by kernel_rfl)
                    have f24 : sm 24 = .bool E := hnew 13 24 (by kernel_rfl)
                    have f117 : sm 117 = .bool false := hnew 0 117 (by kernel_rfl)
                    have f118 : sm 118 = .bool false := hnew 1 118 (by kernel_rfl)
                    have f119 : sm 119 = .slice (some ⟨ub, uo, none⟩) un ucap := hnew 2 119 (by kernel_rfl)
                    have f120 : sm 120 = .int .i64 (k : Int) := hnew 3 120 (by kernel_rfl)
                    have f121 : sm 121 = .pointer (some ⟨ub, uo + k, none⟩) := hnew 4 121 (by kernel_rfl)
                    have f122 : sm 122 = .string ⟨us.toArray⟩ := hnew 5 122 (by kernel_rfl)
                    have f124 : sm 124 = .int .i64 ((1 : Nat) : Int) := hnew 7 124 (by kernel_rfl)
                    have f127 : sm 127 = .string ⟨#[98]⟩ := hnew 10 127 (by kernel_rfl)
                    have f128 : sm 128 = .bool E := hnew 11 128 (by kernel_rfl)
                    have f129 : sm 129 = .bool E := hnew 12 129 (by kernel_rfl)
                    change Exit.inBlock _ _ .normal ⟨#[sm 0, sm 1, sm 2, sm 3, sm 4, sm 5, sm 6, sm 7, sm 8, sm 9, sm 10, sm 11, sm 12, sm 13, sm 14, sm 15, sm 16, sm 17, sm 18, sm 19, sm 20, sm 21, sm 22, sm 23, sm 24, sm 25, sm 26, sm 27, sm 28, sm 29, sm 30, sm 31, sm 32, sm 33, sm 34, sm 35, sm 36, sm 37, sm 38, sm 39, sm 40, sm 41, sm 42, sm 43, sm 44, sm 45, sm 46, sm 47, sm 48, sm 49, sm 50, sm 51, sm 52, sm 53, sm 54, sm 55, sm 56, sm 57, sm 58, sm 59, sm 60, sm 61, sm 62, sm 63, sm 64, sm 65, sm 66, sm 67, sm 68, sm 69, sm 70, sm 71, sm 72, sm 73, sm 74, sm 75, sm 76, sm 77, sm 78, sm 79, sm 80, sm 81, sm 82, sm 83, sm 84, sm 85, sm 86, sm 87, sm 88, sm 89, sm 90, sm 91, sm 92, sm 93, sm 94, sm 95, sm 96, sm 97, sm 98, sm 99, sm 100, sm 101, sm 102, sm 103, sm 104, sm 105, sm 106, sm 107, sm 108, sm 109, sm 110, sm 111, sm 112, sm 113, sm 114, sm 115, sm 116, sm 117, sm 118, sm 119, sm 120, sm 121, sm 122, sm 123, sm 124, sm 125, sm 126, sm 127, sm 128, sm 129, sm 130, sm 131, sm 132, sm 133, sm 134, sm 135, sm 136, sm 137, sm 138, sm 139, sm 140, sm 141, sm 142, sm 143, sm 144, sm 145, sm 146, sm 147, sm 148, sm 149, sm 150, sm 151, sm 152, sm 153, sm 154, sm 155, sm 156, sm 157, sm 158, sm 159, sm 160, sm 161, sm 162, sm 163], _⟩ _
                    simp only [f0, f1, f2, f3, f4, f5, f6, f7, f8, f9, f10, f11, f12, f13, f14, f15, f16, f17, f18, f19, f20, f21, f22, f23, f25, f26, f27, f28, f29, f30, f31, f32, f33, f34, f35, f36, f37, f38, f39, f40, f41, f42, f43, f44, f45, f46, f47, f48, f49, f50, f51, f52, f53, f54, f55, f56, f57, f58, f59, f60, f61, f62, f63, f64, f65, f66, f67, f68, f69, f70, f71, f72, f73, f74, f75, f76, f77, f78, f79, f80, f81, f82, f83, f84, f85, f86, f87, f88, f89, f90, f91, f92, f93, f94, f95, f96, f97, f98, f99, f100, f101, f102, f103, f104, f105, f106, f107, f108, f109, f110, f111, f112, f113, f114, f115, f116, f130, f131, f132, f133, f134, f135, f136, f137, f138, f139, f140, f141, f142, f143, f144, f145, f146, f147, f148, f149, f150, f151, f152, f153, f154, f155, f156, f157, f158, f159, f160, f161, f162, f163, f24, f117, f118, f119, f120, f121, f122, f124, f127, f128, f129]
                    clear hold hnew
                    have HE6 := Lib.hid (HE5.out.trans hEr)
                    clear hEr
                    go_wp2
                    go_roundw
                    case rel => exact ⟨k + 1, E, by go_num, rfl, by omega, Lib.hid (by rw [HTK.out]; rfl), HE6⟩
                    case measure => simp [intOf]; omega
                  · go_upto_region 26 with fail
                    refine wp_region_slots hmix [fun v _ => v = .bool true, fun v _ => v = .bool true, fun _ _ => True, fun _ _ => True, fun _ _ => True, fun _ _ => True, fun _ _ => True, fun _ _ => True, fun _ _ => True, fun _ _ => True, fun _ _ => True, fun _ _ => True, fun v _ => v = .bool true, fun v _ => v = .bool true]
                      164 rfl (by kernel_rfl) ⟨mono_eq _, mono_eq _, mono_true, mono_true, mono_true, mono_true, mono_true, mono_true, mono_true, mono_true, mono_true, mono_true, mono_eq _, mono_eq _, trivial⟩ ?_ ?_
                    · refine ops_cons 0 ?_ (ops_cons 1 ?_ (ops_cons 2 ?_ (ops_cons 3 ?_ (ops_cons 4 ?_ (ops_cons 5 ?_ (ops_cons 6 ?_ (ops_cons 7 ?_ (ops_cons 8 ?_ (ops_cons 9 ?_ (ops_cons 10 ?_ (ops_cons 11 ?_ (ops_cons 12 ?_ (ops_cons 13 ?_ (ops_nil 14))))))))))))))
                      · refine op_value fun a w c => ⟨(wanted_plain rfl), _, run_move _ rfl w, (c.was 24 (by kernel_rfl) rfl)⟩
                      · refine op_value fun a w c => ⟨(wanted_plain rfl), _, run_move _ rfl w, (c.new 0 117 (by kernel_rfl) (by kernel_rfl))⟩
                      · refine op_skip fun a w c => ⟨(wanted_no rfl (by kernel_rfl) (c.new 1 118 (by kernel_rfl) (by kernel_rfl)) (by decide)), trivial⟩
                      · refine op_skip fun a w c => ⟨(wanted_no rfl (by kernel_rfl) (c.new 1 118 (by kernel_rfl) (by kernel_rfl)) (by decide)), trivial⟩
                      · refine op_skip fun a w c => ⟨(wanted_no rfl (by kernel_rfl) (c.new 1 118 (by kernel_rfl) (by kernel_rfl)) (by decide)), trivial⟩
                      · refine op_skip fun a w c => ⟨(wanted_no rfl (by kernel_rfl) (c.new 1 118 (by kernel_rfl) (by kernel_rfl)) (by decide)), trivial⟩
                      · refine op_skip fun a w c => ⟨(wanted_no rfl (by kernel_rfl) (c.new 1 118 (by kernel_rfl) (by kernel_rfl)) (by decide)), trivial⟩
                      · refine op_skip fun a w c => ⟨(wanted_no rfl (by kernel_rfl) (c.new 1 118 (by kernel_rfl) (by kernel_rfl)) (by decide)), trivial⟩
                      · refine op_skip fun a w c => ⟨(wanted_no rfl (by kernel_rfl) (c.new 1 118 (by kernel_rfl) (by kernel_rfl)) (by decide)), trivial⟩
                      · refine op_skip fun a w c => ⟨(wanted_no rfl (by kernel_rfl) (c.new 1 118 (by kernel_rfl) (by kernel_rfl)) (by decide)), trivial⟩
                      · refine op_skip fun a w c => ⟨(wanted_no rfl (by kernel_rfl) (c.new 1 118 (by kernel_rfl) (by kernel_rfl)) (by decide)), trivial⟩
                      · refine op_skip fun a w c => ⟨(wanted_no rfl (by kernel_rfl) (c.new 1 118 (by kernel_rfl) (by kernel_rfl)) (by decide)), trivial⟩
                      · refine op_value fun a w c => ⟨(wanted_plain rfl), _, run_pick_true rfl (c.new 1 118 (by kernel_rfl) (by kernel_rfl)) w, (evc a _)⟩
                      · refine op_value fun a w c => ⟨(wanted_plain rfl), _, run_assign _ rfl w, (c.new 12 129 (by kernel_rfl) (by kernel_rfl))⟩
                    intro sm w6 hEr hold hnew
                    have f0 : sm 0 = sl 0 := hold 0 (by kernel_rfl)
                    have f1 : sm 1 = sl 1 := hold 1 (by kernel_rfl)
                    have f2 : sm 2 = sl 2 := hold 2 (by kernel_rfl)
                    have f3 : sm 3 = .int .i64 c := hold 3 (by kernel_rfl)
                    have f4 : sm 4 = sl 4 := hold 4 (by kernel_rfl)
                    have f5 : sm 5 = sl 5 := hold 5 (by kernel_rfl)
                    have f6 : sm 6 = sl 6 := hold 6 (by kernel_rfl)
                    have f7 : sm 7 = sl 7 := hold 7 (by kernel_rfl)
                    have f8 : sm 8 = sl 8 := hold 8 (by kernel_rfl)
                    have f9 : sm 9 = sl 9 := hold 9 (by kernel_rfl)
                    have f10 : sm 10 = sl 10 := hold 10 (by kernel_rfl)
                    have f11 : sm 11 = sl 11 := hold 11 (by kernel_rfl)
                    have f12 : sm 12 = sl 12 := hold 12 (by kernel_rfl)
                    have f13 : sm 13 = sl 13 := hold 13 (by kernel_rfl)
                    have f14 : sm 14 = .pointer (some ⟨gx, 0, none⟩) := hold 14 (by kernel_rfl)
                    have f15 : sm 15 = sl 15 := hold 15 (by kernel_rfl)
                    have f16 : sm 16 = sl 16 := hold 16 (by kernel_rfl)
                    have f17 : sm 17 = .slice (some ⟨gr, 0, none⟩) 3 3 := hold 17 (by kernel_rfl)
                    have f18 : sm 18 = .int .i64 vk := hold 18 (by kernel_rfl)
                    have f19 : sm 19 = .int .i64 0 := hold 19 (by kernel_rfl)
                    have f20 : sm 20 = .pointer (some ⟨g1, 0, none⟩) := hold 20 (by kernel_rfl)
                    have f21 : sm 21 = .int .i64 0 := hold 21 (by kernel_rfl)
                    have f22 : sm 22 = .slice (some ⟨ub, uo, none⟩) un ucap := hold 22 (by kernel_rfl)
                    have f23 : sm 23 = .int .i64 ((1 : Nat) : Int) := hold 23 (by kernel_rfl)
                    have f25 : sm 25 = .int .i64 (k : Int) := hold 25 (by kernel_rfl)
                    have f26 : sm 26 = sl 26 := hold 26 (by kernel_rfl)
                    have f27 : sm 27 = sl 27 := hold 27 (by kernel_rfl)
                    have f28 : sm 28 = sl 28 := hold 28 (by kernel_rfl)
                    have f29 : sm 29 = sl 29 := hold 29 (by kernel_rfl)
                    have f30 : sm 30 = sl 30 := hold 30 (by kernel_rfl)
                    have f31 : sm 31 = sl 31 := hold 31 (by kernel_rfl)
                    have f32 : sm 32 = sl 32 := hold 32 (by kernel_rfl)
                    have f33 : sm 33 = sl 33 := hold 33 (by kernel_rfl)
                    have f34 : sm 34 = sl 34 := hold 34 (by kernel_rfl)
                    have f35 : sm 35 = sl 35 := hold 35 (by kernel_rfl)
                    have f36 : sm 36 = sl 36 := hold 36 (by kernel_rfl)
                    have f37 : sm 37 = sl 37 := hold 37 (by kernel_rfl)
                    have f38 : sm 38 = sl 38 := hold 38 (by kernel_rfl)
                    have f39 : sm 39 = sl 39 := hold 39 (by kernel_rfl)
                    have f40 : sm 40 = sl 40 := hold 40 (by kernel_rfl)
                    have f41 : sm 41 = sl 41 := hold 41 (by kernel_rfl)
                    have f42 : sm 42 = sl 42 := hold 42 (by kernel_rfl)
                    have f43 : sm 43 = sl 43 := hold 43 (by kernel_rfl)
                    have f44 : sm 44 = sl 44 := hold 44 (by kernel_rfl)
                    have f45 : sm 45 = sl 45 := hold 45 (by kernel_rfl)
                    have f46 : sm 46 = sl 46 := hold 46 (by kernel_rfl)
                    have f47 : sm 47 = sl 47 := hold 47 (by kernel_rfl)
                    have f48 : sm 48 = sl 48 := hold 48 (by kernel_rfl)
                    have f49 : sm 49 = sl 49 := hold 49 (by kernel_rfl)
                    have f50 : sm 50 = sl 50 := hold 50 (by kernel_rfl)
                    have f51 : sm 51 = sl 51 := hold 51 (by kernel_rfl)
                    have f52 : sm 52 = sl 52 := hold 52 (by kernel_rfl)
                    have f53 : sm 53 = sl 53 := hold 53 (by kernel_rfl)
                    have f54 : sm 54 = sl 54 := hold 54 (by kernel_rfl)
                    have f55 : sm 55 = sl 55 := hold 55 (by kernel_rfl)
                    have f56 : sm 56 = sl 56 := hold 56 (by kernel_rfl)
                    have f57 : sm 57 = sl 57 := hold 57 (by kernel_rfl)
                    have f58 : sm 58 = sl 58 := hold 58 (by kernel_rfl)
                    have f59 : sm 59 = sl 59 := hold 59 (by kernel_rfl)
                    have f60 : sm 60 = sl 60 := hold 60 (by kernel_rfl)
                    have f61 : sm 61 = sl 61 := hold 61 (by kernel_rfl)
                    have f62 : sm 62 = sl 62 := hold 62 (by kernel_rfl)
                    have f63 : sm 63 = sl 63 := hold 63 (by kernel_rfl)
                    have f64 : sm 64 = sl 64 := hold 64 (by kernel_rfl)
                    have f65 : sm 65 = sl 65 := hold 65 (by kernel_rfl)
                    have f66 : sm 66 = sl 66 := hold 66 (by kernel_rfl)
                    have f67 : sm 67 = sl 67 := hold 67 (by kernel_rfl)
                    have f68 : sm 68 = sl 68 := hold 68 (by kernel_rfl)
                    have f69 : sm 69 = sl 69 := hold 69 (by kernel_rfl)
                    have f70 : sm 70 = .tuple #[.agg #[.int .i64 vk, .int .i64 vn, .string vs_], .int .i64 0] := hold 70 (by kernel_rfl)
                    have f71 : sm 71 = .agg #[.int .i64 x.kind, .string ⟨x.s.toArray⟩, .int .i64 x.n, .slice x.A x.kids.length x.cap] := hold 71 (by kernel_rfl)
                    have f72 : sm 72 = sl 72 := hold 72 (by kernel_rfl)
                    have f73 : sm 73 = .slice (some ⟨gr, 0, none⟩) 3 3 := hold 73 (by kernel_rfl)
                    have f74 : sm 74 = .tuple #[.agg #[.int .i64 vk, .int .i64 vn, .string vs_], .int .i64 0] := hold 74 (by kernel_rfl)
                    have f75 : sm 75 = .agg #[.int .i64 vk, .int .i64 vn, .string vs_] := hold 75 (by kernel_rfl)
                    have f76 : sm 76 = .int .i64 0 := hold 76 (by kernel_rfl)
                    have f77 : sm 77 = .int .i64 0 := hold 77 (by kernel_rfl)
                    have f78 : sm 78 = .bool false := hold 78 (by kernel_rfl)
                    have f79 : sm 79 = sl 79 := hold 79 (by kernel_rfl)
                    have f80 : sm 80 = sl 80 := hold 80 (by kernel_rfl)
                    have f81 : sm 81 = sl 81 := hold 81 (by kernel_rfl)
                    have f82 : sm 82 = sl 82 := hold 82 (by kernel_rfl)
                    have f83 : sm 83 = sl 83 := hold 83 (by kernel_rfl)
                    have f84 : sm 84 = sl 84 := hold 84 (by kernel_rfl)
                    have f85 : sm 85 = sl 85 := hold 85 (by kernel_rfl)
                    have f86 : sm 86 = sl 86 := hold 86 (by kernel_rfl)
                    have f87 : sm 87 = sl 87 := hold 87 (by kernel_rfl)
                    have f88 : sm 88 = sl 88 := hold 88 (by kernel_rfl)
                    have f89 : sm 89 = .int .i64 0 := hold 89 (by kernel_rfl)
                    have f90 : sm 90 = .bool false := hold 90 (by kernel_rfl)
                    have f91 : sm 91 = sl 91 := hold 91 (by kernel_rfl)
                    have f92 : sm 92 = sl 92 := hold 92 (by kernel_rfl)
                    have f93 : sm 93 = sl 93 := hold 93 (by kernel_rfl)
                    have f94 : sm 94 = sl 94 := hold 94 (by kernel_rfl)
                    have f95 : sm 95 = sl 95 := hold 95 (by kernel_rfl)
                    have f96 : sm 96 = sl 96 := hold 96 (by kernel_rfl)
                    have f97 : sm 97 = sl 97 := hold 97 (by kernel_rfl)
                    have f98 : sm 98 = sl 98 := hold 98 (by kernel_rfl)
                    have f99 : sm 99 = sl 99 := hold 99 (by kernel_rfl)
                    have f100 : sm 100 = sl 100 := hold 100 (by kernel_rfl)
                    have f101 : sm 101 = sl 101 := hold 101 (by kernel_rfl)
                    have f102 : sm 102 = sl 102 := hold 102 (by kernel_rfl)
                    have f103 : sm 103 = sl 103 := hold 103 (by kernel_rfl)
                    have f104 : sm 104 = sl 104 := hold 104 (by kernel_rfl)
                    have f105 : sm 105 = .agg #[.int .i64 x.kind, .string ⟨x.s.toArray⟩, .int .i64 x.n, .slice x.A x.kids.length x.cap] := hold 105 (by kernel_rfl)
                    have f106 : sm 106 = .slice (some ⟨ub, uo, none⟩) un ucap := hold 106 (by kernel_rfl)
                    have f107 : sm 107 = .int .i64 ((1 : Nat) : Int) := hold 107 (by kernel_rfl)
                    have f108 : sm 108 = .bool true := hold 108 (by kernel_rfl)
                    have f109 : sm 109 = u109 := hold 109 (by kernel_rfl)
                    have f110 : sm 110 = u110 := hold 110 (by kernel_rfl)
                    have f111 : sm 111 = .int .i64 (k : Int) := hold 111 (by kernel_rfl)
                    have f112 : sm 112 = .slice (some ⟨ub, uo, none⟩) un ucap := hold 112 (by kernel_rfl)
                    have f113 : sm 113 = .int .i64 (un : Int) := hold 113 (by kernel_rfl)
                    have f114 : sm 114 = .bool true := hold 114 (by kernel_rfl)
                    have f115 : sm 115 = u115 := hold 115 (by kernel_rfl)
                    have f116 : sm 116 = u116 := hold 116 (by kernel_rfl)
                    have f130 : sm 130 = u130 := hold 130 (by kernel_rfl)
                    have f131 : sm 131 = u131 := hold 131 (by kernel_rfl)
                    have f132 : sm 132 = u132 := hold 132 (by kernel_rfl)
                    have f133 : sm 133 = u133 := hold 133 (by kernel_rfl)
                    have f134 : sm 134 = u134 := hold 134 (by kernel_rfl)
                    have f135 : sm 135 = u135 := hold 135 (by kernel_rfl)
                    have f136 : sm 136 = u136 := hold 136 (by kernel_rfl)
                    have f137 : sm 137 = sl 137 := hold 137 (by kernel_rfl)
                    have f138 : sm 138 = sl 138 := hold 138 (by kernel_rfl)
                    have f139 : sm 139 = sl 139 := hold 139 (by kernel_rfl)
                    have f140 : sm 140 = sl 140 := hold 140 (by kernel_rfl)
                    have f141 : sm 141 = sl 141 := hold 141 (by kernel_rfl)
                    have f142 : sm 142 = sl 142 := hold 142 (by kernel_rfl)
                    have f143 : sm 143 = sl 143 := hold 143 (by kernel_rfl)
                    have f144 : sm 144 = sl 144 := hold 144 (by kernel_rfl)
                    have f145 : sm 145 = sl 145 := hold 145 (by kernel_rfl)
                    have f146 : sm 146 = sl 146 := hold 146 (by kernel_rfl)
                    have f147 : sm 147 = sl 147 := hold 147 (by kernel_rfl)
                    have f148 : sm 148 = sl 148 := hold 148 (by kernel_rfl)
                    have f149 : sm 149 = sl 149 := hold 149 (by kernel_rfl)
                    have f150 : sm 150 = sl 150 := hold 150 (by kernel_rfl)
                    have f151 : sm 151 = sl 151 := hold 151 (by kernel_rfl)
                    have f152 : sm 152 = sl 152 := hold 152 (by kernel_rfl)
                    have f153 : sm 153 = sl 153 := hold 153 (by kernel_rfl)
                    have f154 : sm 154 = sl 154 := hold 154 (by kernel_rfl)
                    have f155 : sm 155 = sl 155 := hold 155 (by kernel_rfl)
                    have f156 : sm 156 = sl 156 := hold 156 (by kernel_rfl)
                    have f157 : sm 157 = sl 157 := hold 157 (by kernel_rfl)
                    have f158 : sm 158 = sl 158 := hold 158 (by kernel_rfl)
                    have f159 : sm 159 = sl 159 := hold 159 (by kernel_rfl)
                    have f160 : sm 160 = sl 160 := hold 160 (by kernel_rfl)
                    have f161 : sm 161 = sl 161 := hold 161 (by kernel_rfl)
                    have f162 : sm 162 = sl 162 := hold 162 (by kernel_rfl)
                    have f163 : sm 163 = sl 163 := hold 163 (by kernel_rfl)
                    have f24 : sm 24 = .bool true := hnew 13 24 (by kernel_rfl)
                    have f117 : sm 117 = .bool true := hnew 0 117 (by kernel_rfl)
                    have f118 : sm 118 = .bool true := hnew 1 118 (by kernel_rfl)
                    have f129 : sm 129 = .bool true := hnew 12 129 (by kernel_rfl)
                    change Exit.inBlock _ _ .normal ⟨#[sm 0, sm 1, sm 2, sm 3, sm 4, sm 5, sm 6, sm 7, sm 8, sm 9, sm 10, sm 11, sm 12, sm 13, sm 14, sm 15, sm 16, sm 17, sm 18, sm 19, sm 20, sm 21, sm 22, sm 23, sm 24, sm 25, sm 26, sm 27, sm 28, sm 29, sm 30, sm 31, sm 32, sm 33, sm 34, sm 35, sm 36, sm 37, sm 38, sm 39, sm 40, sm 41, sm 42, sm 43, sm 44, sm 45, sm 46, sm 47, sm 48, sm 49, sm 50, sm 51, sm 52, sm 53, sm 54, sm 55, sm 56, sm 57, sm 58, sm 59, sm 60, sm 61, sm 62, sm 63, sm 64, sm 65, sm 66, sm 67, sm 68, sm 69, sm 70, sm 71, sm 72, sm 73, sm 74, sm 75, sm 76, sm 77, sm 78, sm 79, sm 80, sm 81, sm 82, sm 83, sm 84, sm 85, sm 86, sm 87, sm 88, sm 89, sm 90, sm 91, sm 92, sm 93, sm 94, sm 95, sm 96, sm 97, sm 98, sm 99, sm 100, sm 101, sm 102, sm 103, sm 104, sm 105, sm 106, sm 107, sm 108, sm 109, sm 110, sm 111, sm 112, sm 113, sm 114, sm 115, sm 116, sm 117, sm 118, sm 119, sm 120, sm 121, sm 122, sm 123, sm 124, sm 125, sm 126, sm 127, sm 128, sm 129, sm 130, sm 131, sm 132, sm 133, sm 134, sm 135, sm 136, sm 137, sm 138, sm 139, sm 140, sm 141, sm 142, sm 143, sm 144, sm 145, sm 146, sm 147, sm 148, sm 149, sm 150, sm 151, sm 152, sm 153, sm 154, sm 155, sm 156, sm 157, sm 158, sm 159, sm 160, sm 161, sm 162, sm 163], _⟩ _
                    simp only [f0, f1, f2, f3, f4, f5, f6, f7, f8, f9, f10, f11, f12, f13, f14, f15, f16, f17, f18, f19, f20, f21, f22, f23, f25, f26, f27, f28, f29, f30, f31, f32, f33, f34, f35, f36, f37, f38, f39, f40, f41, f42, f43, f44, f45, f46, f47, f48, f49, f50, f51, f52, f53, f54, f55, f56, f57, f58, f59, f60, f61, f62, f63, f64, f65, f66, f67, f68, f69, f70, f71, f72, f73, f74, f75, f76, f77, f78, f79, f80, f81, f82, f83, f84, f85, f86, f87, f88, f89, f90, f91, f92, f93, f94, f95, f96, f97, f98, f99, f100, f101, f102, f103, f104, f105, f106, f107, f108, f109, f110, f111, f112, f113, f114, f115, f116, f130, f131, f132, f133, f134, f135, f136, f137, f138, f139, f140, f141, f142, f143, f144, f145, f146, f147, f148, f149, f150, f151, f152, f153, f154, f155, f156, f157, f158, f159, f160, f161, f162, f163, f24, f117, f118, f129]
                    clear hold hnew
                    have HE6 := Lib.hid (HE5.out.trans hEr)
                    clear hEr
                    go_wp2
                    go_roundw
                    case rel => exact ⟨k + 1, true, by go_num, rfl, by omega, Lib.hid (by rw [HTK.out]; rfl), HE6⟩
                    case measure => simp [intOf]; omega
                · have hku : k = un := by omega
                  have j2 : ¬ ((k : Int) < (un : Int)) := by omega
                  have HFF : Hid (U.any (· == [98]) = F) := Lib.hid (by
                    have := HF.out
                    rw [List.take_of_length_le (by rw [HS5.out.u.len]; omega)] at this
                    exact this.symm)
                  clear hku
                  cases F
                  · obtain ⟨k0, k1, k2, k3, k4, k5, f0, f1, f2, f3, f4, f5⟩ := row_cells HS5.out.row
                    go_wp2_with (first
                      | ((with_reducible refine (HN.out _ _).mono ?_); rintro r w6 ⟨rfl, hE6⟩; clear k0 k1 k2 k3 k4 k5 f0 f1 f2 f3 f4 f5; have HS6 := Lib.hid (HS5.out.ev hE6); obtain ⟨k0, k1, k2, k3, k4, k5, f0, f1, f2, f3, f4, f5⟩ := row_cells HS6.out.row))
                    go_roundw
                    case rel => exact ⟨2, x0, c, by go_num, by omega, Lib.hid (by rw [HX0.out]; simp), Lib.hid (by rw [HFF.out]; simp), Lib.hid (HS6.out.put (row_put1_but _ _ _) (row_put1 HS6.out.row c) HN1.out HN2.out HUB.out HN4.out)⟩
                    case measure => simp [intOf]
                  · go_wp2
                    go_roundw
                    case rel => exact ⟨2, x0, x1, by go_num, by omega, Lib.hid (by rw [HX0.out]; simp), Lib.hid (by rw [HX1.out, HFF.out]; simp), HS5⟩
                    case measure => simp [intOf]
            · have HAG : Hid (xEval tcols (rowc a b t1) RT = xEval tcols (rowc x0 x1 t1) RT) := Lib.hid (sound_agree (a := a) (b := b) (c := c) HALL.out (by rw [← HU2.out, HX0.out]; simp) (by rw [← HU2.out, HX1.out]; simp))
              have hx0 : i64R x0 := by rw [HX0.out]; split <;> first | exact HCC.out | exact HA.out
              have hx1 : i64R x1 := by rw [HX1.out]; split <;> first | exact HCC.out | exact HB.out
              have SD := HSS.out
              have HE3 := Lib.hid (fun w1 (hE : Ev wr w1) g (hC : Cs w1 (some ⟨g, 0, none⟩) 3 3 tcols) => by
                have h := HE3a.out x0 x1 hx0 hx1 w1 ((SD.lx.ev hE).less fun k hk => by cases hk) (row_vs (SD.row.ev hE)) g hC
                simp only [HVAL3.out x0 x1 (by first | trivial | rfl) HAG.out] at h
                exact h)
              go_upto_region 29 with fail
              refine wp_region_slotsN hmix (JV (wr.heap.size)) 8 26 7 (BxV (wr.heap.size) vk vn vs_) [fun v _ => v = .agg #[.int .i64 x.kind, .string ⟨x.s.toArray⟩, .int .i64 x.n, .slice x.A x.kids.length x.cap], ColsF, fun v _ => v = .slice (some ⟨gr, 0, none⟩) 3 3, fun v _ => v = .tuple #[.agg #[.int .i64 vk, .int .i64 vn, .string vs_], .int .i64 0], fun v _ => v = .tuple #[.agg #[.int .i64 vk, .int .i64 vn, .string vs_], .int .i64 0], fun v _ => v = .agg #[.int .i64 vk, .int .i64 vn, .string vs_], fun v _ => v = .int .i64 0, NewV (wr.heap.size), fun _ _ => True, fun v _ => v = .int .i64 0]
                164 rfl (by kernel_rfl) ⟨mono_eq _, ColsF.mono, mono_eq _, mono_eq _, mono_eq _, mono_eq _, mono_eq _, NewV.mono _, mono_true, mono_eq _, trivial⟩ ⟨.inr (.inr fun _ _ _ _ h => h), .inr (.inr (ColsF.jump _)), .inr (.inr fun _ _ _ _ h => h), .inr (.inr fun _ _ _ _ h => h), .inr (.inr fun _ _ _ _ h => h), .inr (.inr fun _ _ _ _ h => h), .inr (.inr fun _ _ _ _ h => h), .inr (.inr (NewV.jump _ _)), .inl rfl, .inr (.inr fun _ _ _ _ h => h), trivial⟩ (BxV.mono _ _ _ _) _ rfl (by kernel_rfl) (by kernel_rfl) ?_ ?_ ?_
              · refine opn_cons 0 ?_ (opn_cons 1 ?_ (opn_cons 2 ?_ (opn_cons 3 ?_ (opn_cons 4 ?_ (opn_cons 5 ?_ (opn_cons 6 ?_ (opn_cons 7 ?_ (opn_store 8 (opn_cons 9 ?_ (opn_nil 10))))))))))
                · refine op_value fun a wq c => ⟨(wanted_plain rfl), _, run_load_box2 rfl ((c.was 14 (by kernel_rfl) rfl) : a.eval (.tmp 14) = .pointer (some ⟨gx, 0, none⟩)) (SD.bx.ev c.ev) Try.underlying39 rfl Try.sizeExpr, rfl⟩
                · refine op_call fun a wq c => ⟨(wanted_plain rfl), 6, #[], ?_, ?_⟩
                  · rw [run_call 6 _ _ rfl (by kernel_rfl)]
                    simp
                  · exact HTC.out wq
                · refine op_value fun a w c => ⟨(wanted_plain rfl), _, run_move _ rfl w, (c.was 17 (by kernel_rfl) rfl)⟩
                · refine op_call fun a wq c => ?_
                  obtain ⟨g_, cs_, eg_, _, hC_⟩ := (c.got 1 139 (by kernel_rfl) (by kernel_rfl) rfl : ColsF _ _)
                  refine ⟨(wanted_plain rfl), 16, #[.agg #[.int .i64 x.kind, .string ⟨x.s.toArray⟩, .int .i64 x.n, .slice x.A x.kids.length x.cap], .slice (some ⟨g_, 0, none⟩) 3 3, .slice (some ⟨gr, 0, none⟩) 3 3], ?_, ?_⟩
                  · rw [run_call 16 _ _ rfl (by kernel_rfl)]
                    have e_0 : a.eval (.tmp 138) = .agg #[.int .i64 x.kind, .string ⟨x.s.toArray⟩, .int .i64 x.n, .slice x.A x.kids.length x.cap] := (c.new 0 138 (by kernel_rfl) (by kernel_rfl))
                    have e_1 : a.eval (.tmp 140) = .slice (some ⟨gr, 0, none⟩) 3 3 := (c.new 2 140 (by kernel_rfl) (by kernel_rfl))
                    simp [e_0, e_1, eg_]
                  · refine (HE3.out wq c.ev _ hC_).mono ?_
                    rintro e wp ⟨rfl, hE⟩
                    exact ⟨_, rfl, hE, rfl⟩
                · refine op_value fun a w c => ⟨(wanted_plain rfl), _, run_move _ rfl w, (c.new 3 141 (by kernel_rfl) (by kernel_rfl))⟩
                · refine op_value fun a w c => ⟨(wanted_plain rfl), .agg #[.int .i64 vk, .int .i64 vn, .string vs_], ?_, rfl⟩
                  have e137 : a.eval (.tmp 137) = .tuple #[.agg #[.int .i64 vk, .int .i64 vn, .string vs_], .int .i64 0] := (c.new 4 137 (by kernel_rfl) (by kernel_rfl))
                  generalize a.eval = ρ at e137 ⊢
                  simp [execOp, e137, go_sem]
                · refine op_value fun a w c => ⟨(wanted_plain rfl), .int .i64 0, ?_, rfl⟩
                  have e137 : a.eval (.tmp 137) = .tuple #[.agg #[.int .i64 vk, .int .i64 vn, .string vs_], .int .i64 0] := (c.new 4 137 (by kernel_rfl) (by kernel_rfl))
                  generalize a.eval = ρ at e137 ⊢
                  simp [execOp, e137, go_sem]
                · refine op_makes fun a wq c => ⟨(wanted_plain rfl), _, _, run_alloc_val rfl, Ev.alloc _ _, NewV.new _ _ c.ev.size⟩
                · refine op_value fun a w c => ⟨(wanted_plain rfl), _, run_assign _ rfl w, (c.new 6 143 (by kernel_rfl) (by kernel_rfl))⟩
              · refine ⟨rfl, fun a wq c => ?_⟩
                obtain ⟨g_, d0_, d1_, d2_, eg_, hB_, hb_⟩ := (c.got 7 26 (by kernel_rfl) (by kernel_rfl) rfl : NewV _ _ _)
                have ev_0 : a.eval (.tmp 142) = .agg #[.int .i64 vk, .int .i64 vn, .string vs_] := (c.new 5 142 (by kernel_rfl) (by kernel_rfl))
                obtain ⟨⟨z0_, z1_, z2_⟩, y0_, y1_, y2_⟩ := hB_.three
                refine ⟨wanted_plain rfl, set3 g_ (.int .i64 vk) (.int .i64 vn) (.string vs_) wq, ?_, ⟨g_, _, _, _, hb_, ⟨_, _, _, hB_⟩, rfl⟩, c.ev.box (set3_but _ _ _ _ _) hb_, ⟨g_, eg_, hB_.set3 _ _ _, hb_⟩⟩
                generalize a.eval = ρ at eg_ ev_0 ⊢
                simp [execOp, eg_, ev_0, go_sem, z0_, z1_, z2_, y0_, y1_, y2_, set3]
              intro sl v29 hEr hold hnew hps
              obtain ⟨g2, f26, B2, hb_g2⟩ := hps
              have f14 : sl 14 = .pointer (some ⟨gx, 0, none⟩) := hold 14 (by kernel_rfl)
              have f17 : sl 17 = .slice (some ⟨gr, 0, none⟩) 3 3 := hold 17 (by kernel_rfl)
              have f18 : sl 18 = .int .i64 vk := hold 18 (by kernel_rfl)
              have f20 : sl 20 = .pointer (some ⟨g1, 0, none⟩) := hold 20 (by kernel_rfl)
              have f27 : sl 27 = .int .i64 0 := hnew 9 27 (by kernel_rfl)
              have f137 : sl 137 = .tuple #[.agg #[.int .i64 vk, .int .i64 vn, .string vs_], .int .i64 0] := hnew 4 137 (by kernel_rfl)
              have f138 : sl 138 = .agg #[.int .i64 x.kind, .string ⟨x.s.toArray⟩, .int .i64 x.n, .slice x.A x.kids.length x.cap] := hnew 0 138 (by kernel_rfl)
              have f140 : sl 140 = .slice (some ⟨gr, 0, none⟩) 3 3 := hnew 2 140 (by kernel_rfl)
              have f141 : sl 141 = .tuple #[.agg #[.int .i64 vk, .int .i64 vn, .string vs_], .int .i64 0] := hnew 3 141 (by kernel_rfl)
              have f142 : sl 142 = .agg #[.int .i64 vk, .int .i64 vn, .string vs_] := hnew 5 142 (by kernel_rfl)
              have f143 : sl 143 = .int .i64 0 := hnew 6 143 (by kernel_rfl)
              change Exit.then _ _ .normal ⟨#[sl 0, sl 1, sl 2, sl 3, sl 4, sl 5, sl 6, sl 7, sl 8, sl 9, sl 10, sl 11, sl 12, sl 13, sl 14, sl 15, sl 16, sl 17, sl 18, sl 19, sl 20, sl 21, sl 22, sl 23, sl 24, sl 25, sl 26, sl 27, sl 28, sl 29, sl 30, sl 31, sl 32, sl 33, sl 34, sl 35, sl 36, sl 37, sl 38, sl 39, sl 40, sl 41, sl 42, sl 43, sl 44, sl 45, sl 46, sl 47, sl 48, sl 49, sl 50, sl 51, sl 52, sl 53, sl 54, sl 55, sl 56, sl 57, sl 58, sl 59, sl 60, sl 61, sl 62, sl 63, sl 64, sl 65, sl 66, sl 67, sl 68, sl 69, sl 70, sl 71, sl 72, sl 73, sl 74, sl 75, sl 76, sl 77, sl 78, sl 79, sl 80, sl 81, sl 82, sl 83, sl 84, sl 85, sl 86, sl 87, sl 88, sl 89, sl 90, sl 91, sl 92, sl 93, sl 94, sl 95, sl 96, sl 97, sl 98, sl 99, sl 100, sl 101, sl 102, sl 103, sl 104, sl 105, sl 106, sl 107, sl 108, sl 109, sl 110, sl 111, sl 112, sl 113, sl 114, sl 115, sl 116, sl 117, sl 118, sl 119, sl 120, sl 121, sl 122, sl 123, sl 124, sl 125, sl 126, sl 127, sl 128, sl 129, sl 130, sl 131, sl 132, sl 133, sl 134, sl 135, sl 136, sl 137, sl 138, sl 139, sl 140, sl 141, sl 142, sl 143, sl 144, sl 145, sl 146, sl 147, sl 148, sl 149, sl 150, sl 151, sl 152, sl 153, sl 154, sl 155, sl 156, sl 157, sl 158, sl 159, sl 160, sl 161, sl 162, sl 163], _⟩ _
              simp only [f26, f14, f17, f18, f20, f27, f137, f138, f140, f141, f142, f143]
              clear hold hnew
              have hb1 := SD.b1.ev hEr
              have HALL2 := Lib.hid (SD.all.trans hEr)
              have HVR := Lib.hid (fun w1 => value_right vk vn vs_ w1)
              rw [HRG.out] at HVR
              have q1 := fun w1 => run_eq_val vk vn vs_ vk vn vs_ w1
              have q2 := fun x y w1 => eqGuard_val .eql x y #[.int .i64 vk, .int .i64 vn, .string vs_] #[.int .i64 vk, .int .i64 vn, .string vs_] w1
              have q3 : sameV vk vn vs_ vk vn vs_ = true := sameV_self _ _ _
              simp only [q3] at q1
              unfold vv at q1 HVR
              have HB1 := Lib.hid hb1
              have HB2 := Lib.hid B2
              obtain ⟨⟨p0, p1, p2⟩, _⟩ := HB1.out.three
              clear hEr hb1 B2 SD HSS HSD0
              go_wp2_with (first
                | ((with_reducible refine (HVR.out _).mono ?_); rintro r w7 ⟨rfl, hE7⟩; clear p0 p1 p2; obtain ⟨⟨p0, p1, p2⟩, _⟩ := (HB1.out.ev hE7).three; obtain ⟨⟨r0, r1, r2⟩, _⟩ := (HB2.out.ev hE7).three)
                | ((with_reducible refine (HKn.out _).mono ?_); rintro r w9 ⟨rfl, hE9⟩))
              go_ret
              exact ⟨rfl, (HALL2.out.trans hE7).trans hE9⟩
        · simp only at h0 hz
          unfold v0 at hz
          injection hz with hz1 hz2
          injection hz2 with hz2 hz3
          subst hz1
          subst hz2
          subst hz3
          obtain ⟨⟨p0, p1, p2⟩, _⟩ := B1.three
          rcases h0 with h0 | h0 <;> subst h0 <;> (
            go_wp2_with (first
              | ((with_reducible refine (HKn.out _).mono ?_); rintro r w9 ⟨rfl, hE9⟩))
            go_ret
            exact ⟨rfl, S.all.trans hE9⟩)
      · have hyb : (ty == 0) = false := beq_eq_false_iff_ne.2 hty
        have hyn : (ty != 0) = true := by simp [hty]
        have hv2 := HVAL.out
        rw [hyb] at hv2
        simp only [Bool.false_eq_true, if_false, v0] at hv2
        injection hv2 with hz hz0
        injection hz with hz1 hz2
        injection hz2 with hz2 hz3
        subst hz0
        subst hz1
        subst hz2
        subst hz3
        obtain ⟨⟨p0, p1, p2⟩, _⟩ := B1.three
        clear hty
        go_wp2_with (first
          | ((with_reducible refine (HKn.out _).mono ?_); rintro r w9 ⟨rfl, hE9⟩))
        go_ret
        exact ⟨rfl, S.all.trans hE9⟩
    · have hre' : (RE != 0) = true := bne_iff_ne.2 hre
      clear HXR
      go_wp2_with (first
        | ((with_reducible refine (HR.out _).mono ?_); rintro r w1 ⟨m, rfl, hmt, hml, hE1⟩; simp only []; have HMT := Lib.hid hmt; have HML := Lib.hid (hml.ev (Ev.alloc w1 (.cells #[.int .i64 m.kind, .string ⟨m.s.toArray⟩, .int .i64 m.n, .slice m.A m.kids.length m.cap, .int .i64 (m.pos : Int)] 34))); have HE1 := Lib.hid (hE1.trans (Ev.alloc w1 (.cells #[.int .i64 m.kind, .string ⟨m.s.toArray⟩, .int .i64 m.n, .slice m.A m.kids.length m.cap, .int .i64 (m.pos : Int)] 34))); have BM := Lib.hid (Bx.new 34 #[.int .i64 m.kind, .string ⟨m.s.toArray⟩, .int .i64 m.n, .slice m.A m.kids.length m.cap, .int .i64 (m.pos : Int)] w1); clear hmt hml; obtain ⟨⟨c0, c1, c2, c3, c4⟩, _⟩ := BM.out.five)
        | ((with_reducible refine (HO.out m _ _ HMT.out HML.out).mono ?_); rintro r w2 ⟨m2, rfl, hm2t, hm2l, hE2⟩; have HM2T := Lib.hid (hm2t.trans HMT.out); have HM2L := Lib.hid hm2l; have HE2 := Lib.hid hE2; clear hm2t hm2l)
        | ((with_reducible refine (HRD.out m2 _ _ HM2T.out HM2L.out).mono ?_); rintro r w3 ⟨x, rfl, hx1t, hx1l, hE3⟩; simp only []; clear hx1t hx1l)
        | ((with_reducible refine (HKn.out _).mono ?_); rintro r w9 ⟨rfl, hE9⟩))
      go_ret
      exact ⟨rfl, (((HE1.out.trans HE2.out).trans hE3).trans (Ev.alloc _ _)).trans hE9⟩
  · have hw' : (Rw != 0) = true := bne_iff_ne.2 hw
    have HR := Lib.hid HR
    clear hsm htx
    go_wp2_with (first
      | ((with_reducible refine (HR.out _).mono ?_); rintro r w1 ⟨m, rfl, hmt, hml, hE1⟩; simp only []; clear hmt hml)
      | ((with_reducible refine (HKn.out _).mono ?_); rintro r w9 ⟨rfl, hE9⟩))
    go_ret
    exact ⟨rfl, (hE1.trans (Ev.alloc _ _)).trans hE9⟩
end Go.Proofs.Ytnljagmpeifikaa
