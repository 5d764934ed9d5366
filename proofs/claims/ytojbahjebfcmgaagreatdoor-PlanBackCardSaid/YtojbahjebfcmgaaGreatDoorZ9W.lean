/-
  Texts that belong together: Package sexp: numbers.
-/
import Derived.Test.YtojbahjebfcmgaaGreatDoorShelf
import Derived.Lib.ConvBytes
import Derived.Lib.AtoiErrMem
import Derived.Test.YtojbahjebfcmgaaGreatDoorZ6W
namespace Go.Proofs.YtojbahjebfcmgaaGreatDoor
open Go.RowKit
set_option linter.unusedVariables false

/-- A token as a value. -/
def tkc (x : Tk) : Array Value := #[.int .i64 x.kind, .string ⟨x.s.toArray⟩, .int .i64 x.n, .slice none 0 0, .int .i64 0, .int .i64 x.size, .int .i64 x.why, .int .i64 x.fault]
def tkv (x : Tk) : Value := .agg (tkc x)
theorem Tryz.sizeTk : (Tryz.prog.info? 94).map (·.size) = some 8 := by kernel_rfl
theorem ret_tk {fn : Func} {q : Tmp} (h : fn.results = #[.cell q 94]) (tmps : Array Value) (w : World) (g : Nat) (x : Tk)
    (hp : tmps.getD q undef = .pointer (some ⟨g, 0, none⟩)) (hg : w.heap[g]? = some (.cells (tkc x) 94 (0, 0))) :
    (results fn tmps).run Tryz.prog w = .ok (tkv x) w :=
  results_cell_row h tmps w g 94 _ _ _ hp hg Tryz.underlying94 rfl Tryz.sizeTk

/-- A token in its own box. -/
structure TkBox (g : Nat) (x : Tk) (w : World) : Prop where
  blk : w.heap[g]? = some (.cells (tkc x) 94 (0, 0))
theorem TkBox.cs {g : Nat} {x : Tk} {w : World} (h : TkBox g x w) : w.cell? ⟨g, 0, none⟩ = some (.int .i64 x.kind) ∧ w.cell? ⟨g, 1, none⟩ = some (.string ⟨x.s.toArray⟩) ∧ w.cell? ⟨g, 2, none⟩ = some (.int .i64 x.n) ∧ w.cell? ⟨g, 3, none⟩ = some (.slice none 0 0) ∧
    w.cell? ⟨g, 4, none⟩ = some (.int .i64 0) ∧ w.cell? ⟨g, 5, none⟩ = some (.int .i64 x.size) ∧ w.cell? ⟨g, 6, none⟩ = some (.int .i64 x.why) ∧ w.cell? ⟨g, 7, none⟩ = some (.int .i64 x.fault) := by
  refine ⟨?_, ?_, ?_, ?_, ?_, ?_, ?_, ?_⟩ <;> (rw [Lib.cell_of_heap h.blk]; rfl)
theorem TkBox.f {g : Nat} {x : Tk} {w : World} (h : TkBox g x w) (i : Nat) : w.frozen? ⟨g, i, none⟩ = false := Lib.frozen_of_heap h.blk i
theorem TkBox.fs {g : Nat} {x : Tk} {w : World} (h : TkBox g x w) : w.frozen? ⟨g, 0, none⟩ = false ∧ w.frozen? ⟨g, 1, none⟩ = false ∧ w.frozen? ⟨g, 2, none⟩ = false ∧ w.frozen? ⟨g, 3, none⟩ = false ∧ w.frozen? ⟨g, 4, none⟩ = false ∧ w.frozen? ⟨g, 5, none⟩ = false ∧ w.frozen? ⟨g, 6, none⟩ = false ∧ w.frozen? ⟨g, 7, none⟩ = false :=
  ⟨h.f 0, h.f 1, h.f 2, h.f 3, h.f 4, h.f 5, h.f 6, h.f 7⟩
theorem TkBox.lt {g : Nat} {x : Tk} {w : World} (h : TkBox g x w) : g < w.heap.size := (Array.getElem?_eq_some_iff.1 h.blk).1
theorem TkBox.but {K : List Nat} {g : Nat} {x : Tk} {w w' : World} (h : TkBox g x w) (hb : But K w w') (hn : g ∉ K) : TkBox g x w' := ⟨hb.heap h.blk hn⟩
theorem TkBox.ev {g : Nat} {x : Tk} {w w' : World} (h : TkBox g x w) (hE : Ev w w') : TkBox g x w' := h.but (But.of_ev (K := []) hE) (by simp)
theorem TkBox.new (x : Tk) (w : World) : TkBox w.heap.size x (w.alloc (.cells (tkc x) 94)) := ⟨heap_alloc_new w _⟩
def tkRaw (k n z y f : Int) (s : ByteArray) : Array Value := #[.int .i64 k, .string s, .int .i64 n, .slice none 0 0, .int .i64 0, .int .i64 z, .int .i64 y, .int .i64 f]
def tkSet (g : Nat) (k n z y f : Int) (s : ByteArray) (w : World) : World :=
  (((((((w.setCell ⟨g, 0, none⟩ (.int .i64 k)).setCell ⟨g, 1, none⟩ (.string s)).setCell ⟨g, 2, none⟩ (.int .i64 n)).setCell ⟨g, 3, none⟩ (.slice none 0 0)).setCell ⟨g, 4, none⟩ (.int .i64 0)).setCell ⟨g, 5, none⟩ (.int .i64 z)).setCell ⟨g, 6, none⟩ (.int .i64 y)).setCell ⟨g, 7, none⟩ (.int .i64 f)
theorem tkSet_fold (g : Nat) (k n z y f : Int) (s : ByteArray) (w : World) :
  (((((((w.setCell ⟨g, 0, none⟩ (.int .i64 k)).setCell ⟨g, 1, none⟩ (.string s)).setCell ⟨g, 2, none⟩ (.int .i64 n)).setCell ⟨g, 3, none⟩ (.slice none 0 0)).setCell ⟨g, 4, none⟩ (.int .i64 0)).setCell ⟨g, 5, none⟩ (.int .i64 z)).setCell ⟨g, 6, none⟩ (.int .i64 y)).setCell ⟨g, 7, none⟩ (.int .i64 f) = tkSet g k n z y f s w := rfl
theorem TkBox.set {g : Nat} {x : Tk} {w : World} (h : TkBox g x w) (k n z y f : Int) (s : ByteArray) : (tkSet g k n z y f s w).heap[g]? = some (.cells (tkRaw k n z y f s) 94 (0, 0)) := by
  have := set_heap 7 (.int .i64 f) (set_heap 6 (.int .i64 y) (set_heap 5 (.int .i64 z) (set_heap 4 (.int .i64 0) (set_heap 3 (.slice none 0 0) (set_heap 2 (.int .i64 n) (set_heap 1 (.string s) (set_heap 0 (.int .i64 k) h.blk)))))))
  rwa [show ((((((((tkc x).setIfInBounds 0 (.int .i64 k)).setIfInBounds 1 (.string s)).setIfInBounds 2 (.int .i64 n)).setIfInBounds 3 (.slice none 0 0)).setIfInBounds 4 (.int .i64 0)).setIfInBounds 5 (.int .i64 z)).setIfInBounds 6 (.int .i64 y)).setIfInBounds 7 (.int .i64 f) = tkRaw k n z y f s by simp [tkc, tkRaw]] at this
theorem tkSet_but (g : Nat) (k n z y f : Int) (s : ByteArray) (w : World) : But [g] w (tkSet g k n z y f s w) :=
  (((((((But.setCell ⟨g, 0, none⟩ _ (by simp)).then (But.setCell ⟨g, 1, none⟩ _ (by simp))).then (But.setCell ⟨g, 2, none⟩ _ (by simp))).then (But.setCell ⟨g, 3, none⟩ _ (by simp))).then (But.setCell ⟨g, 4, none⟩ _ (by simp))).then (But.setCell ⟨g, 5, none⟩ _ (by simp))).then (But.setCell ⟨g, 6, none⟩ _ (by simp))).then (But.setCell ⟨g, 7, none⟩ _ (by simp))
theorem Ev.over1 {w w1 w2 : World} {g : Nat} (h : Ev w w1) (k : But [g] w1 w2) (hg : w.heap.size ≤ g) : Ev w w2 :=
  ((But.of_ev (K := [g]) h).then k).ev (by simpa using hg)
/-- The result has been laid into the box. -/
theorem tk_done {w1 : World} {g : Nat} {x : Tk} {fn : Func} {q : Tmp} (tmps : Array Value) (h : TkBox g x w1) (k n z y f : Int) (s : ByteArray) (hf : fn.results = #[.cell q 94])
    (hp : tmps.getD q undef = .pointer (some ⟨g, 0, none⟩)) : (results fn tmps).run Tryz.prog (tkSet g k n z y f s w1) = .ok (.agg (tkRaw k n z y f s)) (tkSet g k n z y f s w1) :=
  results_cell_row hf tmps _ g 94 _ _ _ hp (h.set k n z y f s) Tryz.underlying94 rfl Tryz.sizeTk

set_option maxRecDepth 100000 in
theorem sx_wrong (why : Int) (fault : Nat) (w : World) :
    Calls Tryz.prog 97 #[.int .i64 why, .int .i64 (fault : Int)] w fun e w' => e = .returned (tkv (sxWrong why fault)) ∧ Ev w w' := by
  go_enter Tryz.func97, Tryz.ntmps97
  go_wp2
  refine bodyPost_ret (ret_tk rfl _ _ w.heap.size (sxWrong why fault) rfl (heap_alloc_new w _)) rfl ?_
  exact ⟨rfl, Ev.alloc _ _⟩

theorem sxBelow_step (l : By) (k : Nat) (x : UInt8) (n : Int) (h : l[k]? = some x) : sxBelow (l.drop k) n = if n < -((9223372036854775808 - ((x.toNat : Int) - 48)) / 10) then none else sxBelow (l.drop (k + 1)) (n * 10 - ((x.toNat : Int) - 48)) := by
  obtain ⟨hk, e⟩ := List.getElem?_eq_some_iff.1 h
  rw [List.drop_eq_getElem_cons hk, e]
  rfl

set_option maxRecDepth 100000 in
set_option maxHeartbeats 4000000 in
theorem sx_below (s : ByteArray) (w : World) (hd : ∀ c ∈ s.data.toList, sxDigit c = true) (hs : s.size ≤ 100000) :
    Calls Tryz.prog 158 #[.string s] w fun e w' => e = .returned (.tuple #[.int .i64 ((sxBelow s.data.toList 0).getD 0), .bool (sxBelow s.data.toList 0).isSome]) ∧ Ev w w' := by
  have hcv := Lib.run_convert_string_bytes (P := Tryz.prog) w 9 139 5 s Tryz.underlying9 Tryz.underlying139 Tryz.underlying5
  obtain ⟨R, hR⟩ : ∃ R, R = sxBelow s.data.toList 0 := ⟨_, rfl⟩
  rw [← hR]
  have HR := Lib.hid hR
  have HD := Lib.hid hd
  clear hR hd
  go_enter Tryz.func158, Tryz.ntmps158
  go_wp2
  obtain ⟨g, hg⟩ : ∃ g, g = w.heap.size := ⟨_, rfl⟩
  obtain ⟨cap, hcap⟩ : ∃ cap, cap = grownCap w s.size 0 5 := ⟨_, rfl⟩
  obtain ⟨n, hn⟩ : ∃ n, n = s.size := ⟨_, rfl⟩
  have hle : n ≤ cap := by rw [hn, hcap]; exact grownCap_ge _ _ _ _
  have hmx : cap ≤ maxLen := by rw [hcap]; exact grownCap_le_maxLen _ _ _ _ (by unfold maxLen; omega)
  have hll : s.data.toList.length = n := by rw [hn, Array.length_toList]; rfl
  have hEc : Ev w (Lib.bytesWorld w 5 s) := Lib.bytesWorld_below w 5 s
  have hcell : ∀ i, i < n → (Lib.bytesWorld w 5 s).cell? ⟨g, i, none⟩ = some (.int .u8 ((s.data.toList.getD i 0).toNat : Int)) := fun i hi => by rw [hg]; exact Lib.bytesWorld_cell w 5 s i (by omega)
  rw [← hg, ← hcap, ← hn]
  generalize Lib.bytesWorld w 5 s = w2 at *
  have HL := Lib.hid hll
  unfold maxLen at hmx
  rw [← hn] at hs
  clear hcv hg hcap hll hn
  go_loop [4, 11] (fun v i => ∃ (k : Nat) (m : Int), k ≤ n ∧ i = .int .i64 (k : Int) ∧ v = .int .i64 m ∧ -9223372036854775808 ≤ m ∧ m ≤ 0 ∧ Hid (R = sxBelow (s.data.toList.drop k) m)) (fun _ i => n - (intOf i).toNat)
  case atStart => exact ⟨0, 0, Nat.zero_le _, rfl, rfl, by omega, by omega, HR⟩
  case round =>
    obtain ⟨k, m, hk, rfl, rfl, hm1, hm2, HT⟩ := hrel
    by_cases hlt : k < n
    · have hc := hcell k hlt
      have hlk : s.data.toList[k]? = some (s.data.toList.getD k 0) := by
        have h2 : k < s.data.toList.length := by rw [HL.out]; exact hlt
        simp [List.getD, List.getElem?_eq_getElem h2]
      have hdig := HD.out _ (List.mem_of_getElem? hlk)
      have HS := Lib.hid (sxBelow_step s.data.toList k _ m hlk)
      obtain ⟨x, hx⟩ : ∃ x, s.data.toList.getD k 0 = x := ⟨_, rfl⟩
      rw [hx] at hc hdig HS
      clear hx hcell hlk
      obtain ⟨d, hd, hd9⟩ : ∃ d : Nat, (x.toNat : Int) = 48 + (d : Int) ∧ d ≤ 9 := by
        unfold sxDigit at hdig
        simp at hdig
        exact ⟨x.toNat - 48, by omega, by omega⟩
      have i0 : (48 : Int) + (d : Int) - 48 = (d : Int) := by omega
      rw [hd] at hc HS
      rw [i0] at HS
      clear hdig hd
      have i1 : IntKind.u8.wrap ((48 : Int) + (d : Int) - 48) = (d : Int) := by rw [i0]; exact IntWalk.u8_in _ (by omega)
      have i2 : wrap64 (-9223372036854775808 + (d : Int)) = -9223372036854775808 + (d : Int) := by unfold wrap64; omega
      have i3 : (-9223372036854775808 + (d : Int)).tdiv 10 = -((9223372036854775808 - (d : Int)) / 10) := by
        rw [show -9223372036854775808 + (d : Int) = -(9223372036854775808 - (d : Int)) by omega, Int.neg_tdiv, Int.tdiv_eq_ediv_of_nonneg (by omega)]
      by_cases ht : m < (-9223372036854775808 + (d : Int)).tdiv 10
      · have HF : Hid (R = none) := Lib.hid (by rw [HT.out, HS.out, if_pos (by rw [← i3]; exact ht)])
        clear i3 HS HT
        go_wp2
        go_ret2
        rw [HF.out]
        exact ⟨rfl, hEc⟩
      · have HF : Hid (R = sxBelow (s.data.toList.drop (k + 1)) (m * 10 - (d : Int))) := Lib.hid (by rw [HT.out, HS.out, if_neg (by rw [← i3]; exact ht)])
        have i4 : wrap64 (m * 10) = m * 10 := by unfold wrap64; omega
        have i5 : wrap64 (m * 10 - (d : Int)) = m * 10 - (d : Int) := by unfold wrap64; omega
        have i6 : -9223372036854775808 ≤ m * 10 - (d : Int) := by omega
        clear i3 HS HT
        go_wp2
        go_round
        case rel => exact ⟨k + 1, m * 10 - (d : Int), by omega, by go_num, rfl, i6, by omega, HF⟩
        case measure => simp [intOf]; omega
    · obtain rfl : k = n := by omega
      have HZ : Hid (R = some m) := Lib.hid (by rw [HT.out, List.drop_of_length_le (by rw [HL.out]; exact Nat.le_refl _)]; rfl)
      clear HT
      go_wp2
      go_ret2
      rw [HZ.out]
      exact ⟨rfl, hEc⟩

theorem sxBelow_range : ∀ (l : By), (∀ c ∈ l, sxDigit c = true) → ∀ n m : Int, -9223372036854775808 ≤ n → n ≤ 0 → sxBelow l n = some m → -9223372036854775808 ≤ m ∧ m ≤ 0
  | [], _, n, m, h1, h2, h => by
    simp [sxBelow] at h
    omega
  | c :: l, hd, n, m, h1, h2, h => by
    unfold sxBelow at h
    have hc := hd c (List.mem_cons_self ..)
    unfold sxDigit at hc
    simp at hc
    split at h
    · cases h
    · exact sxBelow_range l (fun x hx => hd x (List.mem_cons_of_mem _ hx)) _ m (by omega) (by omega) h
theorem sxDigits_all (l : By) : ∀ c ∈ sxDigits l, sxDigit c = true := sxRun_all sxDigit l
theorem sxDigits_len (l : By) : (sxDigits l).length = sxRun sxDigit l := by
  unfold sxDigits
  rw [List.length_take]
  have := sxRun_le sxDigit l
  omega

set_option maxRecDepth 100000 in
set_option maxHeartbeats 1600000 in
theorem sx_number_ (s : ByteArray) (w : World) (tl : By) (plus : Bool) (hs : s.size ≤ 100000) (htl : Lib.trimPrefix s.data.toList [45] = tl) (hp : ((tl.length : Int) == (s.size : Int)) = plus) (hle : tl.length ≤ s.size) :
    Calls Tryz.prog 94 #[.string s] w fun e w' => e = .returned (tkv (sxNum plus (sxDigits tl))) ∧ Ev w w' := by
  have HT := Lib.hid (fun w1 => Tryz.strings_TrimPrefix s ⟨#[45]⟩ w1)
  have e45 : (⟨#[45]⟩ : ByteArray).data.toList = [45] := rfl
  rw [e45, htl] at HT
  obtain ⟨t, ht⟩ : ∃ t : ByteArray, t = ⟨tl.toArray⟩ := ⟨_, rfl⟩
  have htd : t.data.toList = tl := by rw [ht]
  have htz : t.size = tl.length := by rw [ht]; rfl
  have HR := Lib.hid (fun w1 => sx_run_isDigit t w1 (by omega))
  rw [htd] at HR
  rw [← ht] at HT
  have hdl := sxDigits_len tl
  have hrl := sxRun_le sxDigit tl
  obtain ⟨r, hr⟩ : ∃ r, r = sxRun sxDigit tl := ⟨_, rfl⟩
  obtain ⟨dd, hdd⟩ : ∃ dd : ByteArray, dd = t.extract 0 r := ⟨_, rfl⟩
  have hx : t.extract 0 r = dd := hdd.symm
  have hddl : dd.data.toList = sxDigits tl := by rw [hdd, Lib.extract_eq, htd, hr]; simp [sxDigits]
  have hddz : dd.size = r := by
    have : dd.data.toList.length = dd.size := by rw [Array.length_toList]; rfl
    rw [← this, hddl, hdl, hr]
  have HB := Lib.hid (fun w1 => sx_below dd w1 (by rw [hddl]; exact sxDigits_all tl) (by omega))
  rw [hddl] at HB
  rw [← hr] at HR hrl
  rw [← htz] at hrl hle hp
  generalize hD : sxDigits tl = D at *
  have hDl : D.length = r := by rw [hdl, hr]
  have HDL := Lib.hid hDl
  obtain ⟨w0, hw0⟩ : ∃ w0, w0 = w.alloc (.cells (tkc (sxWrong 0 0)) 94) := ⟨_, rfl⟩
  have B0 : TkBox w.heap.size (sxWrong 0 0) w0 := hw0 ▸ TkBox.new (sxWrong 0 0) w
  have hE0 : Ev w w0 := hw0 ▸ Ev.alloc w _
  have hw0' : w.alloc (.cells #[.int .i64 0, .string ⟨#[]⟩, .int .i64 0, .slice none 0 0, .int .i64 0, .int .i64 0, .int .i64 0, .int .i64 0] 94) = w0 := hw0.symm
  have HW := fun w1 => sx_wrong 12 0 w1
  simp only [tkv, tkc, sxWrong, show (((0 : Nat) : Int)) = 0 from rfl] at HW
  have HW := Lib.hid HW
  have hem : D.isEmpty = dd.toList.isEmpty := by rw [Lib.toList_data, hddl]
  have hD0 : D.isEmpty = true → sxBelow D 0 = some 0 := fun h => by rw [List.isEmpty_iff.1 h]; rfl
  have hRg : ∀ m, sxBelow D 0 = some m → -9223372036854775808 ≤ m ∧ m ≤ 0 := fun m h => sxBelow_range D (by rw [← hD]; exact sxDigits_all tl) 0 m (by omega) (by omega) h
  have HG : Hid (sxNum plus D = match sxBelow D 0 with
    | none => sxWrong 12 0
    | some n => if D.isEmpty || plus && decide (n = -9223372036854775808) then sxWrong 12 0 else if plus then ⟨3, [], -n, D.length, 0, 0⟩ else ⟨3, [], n, 1 + D.length, 0, 0⟩) := Lib.hid rfl
  rw [hDl] at HG
  generalize sxNum plus D = Y at *
  generalize sxBelow D 0 = bl at *
  rw [hem] at HG hD0
  obtain ⟨em, hq⟩ : ∃ em, dd.toList.isEmpty = em := ⟨_, rfl⟩
  rw [hq] at HG hD0
  clear hdl hD ht htd hr hdd hddl hDl htl hem hw0 e45
  cases bl with
  | none =>
    have hem : em = false := by
      cases em
      · rfl
      · have := hD0 rfl; cases this
    subst hem
    simp only [Option.getD_none, Option.isSome_none] at HB
    obtain rfl : Y = sxWrong 12 0 := HG.out
    clear hD0 hRg HG
    go_enter Tryz.func94, Tryz.ntmps94
    go_wp2_with (first
      | ((with_reducible refine (HT.out _).mono ?_); rintro x w1 ⟨rfl, rfl⟩)
      | ((with_reducible refine (HR.out _).mono ?_); rintro x w2 ⟨rfl, rfl⟩)
      | ((with_reducible refine (HB.out _).mono ?_); rintro x w3 ⟨rfl, hE3⟩; have B3 := B0.ev hE3; have E3 := hE0.trans hE3; obtain ⟨c0, c1, c2, c3, c4, c5, c6, c7⟩ := B3.cs; obtain ⟨f0, f1, f2, f3, f4, f5, f6, f7⟩ := B3.fs)
      | ((with_reducible refine (HW.out _).mono ?_); rintro x w4 ⟨rfl, hE4⟩; have B4 := B3.ev hE4; have E4 := E3.trans hE4; obtain ⟨c0, c1, c2, c3, c4, c5, c6, c7⟩ := B4.cs; obtain ⟨f0, f1, f2, f3, f4, f5, f6, f7⟩ := B4.fs))
    rw [tkSet_fold]; refine bodyPost_ret (tk_done _ B4 _ _ _ _ _ _ rfl rfl) rfl ?_
    exact ⟨rfl, E4.over1 (tkSet_but _ _ _ _ _ _ _ _) (Nat.le_refl _)⟩
  | some m =>
    obtain ⟨hm1, hm2⟩ := hRg m rfl
    simp only [Option.getD_some, Option.isSome_some] at HB
    clear hRg hD0
    cases em
    · cases plus
      · obtain rfl : Y = ⟨3, [], m, 1 + r, 0, 0⟩ := HG.out
        clear HG
        have i1 : wrap64 (1 + (r : Int)) = ((1 + r : Nat) : Int) := by unfold wrap64; omega
        have hp' : ¬ ((tl.length : Int) = (s.size : Int)) := by rw [htz] at hp; simpa using hp
        go_enter Tryz.func94, Tryz.ntmps94
        go_wp2_with (first
          | ((with_reducible refine (HT.out _).mono ?_); rintro x w1 ⟨rfl, rfl⟩)
          | ((with_reducible refine (HR.out _).mono ?_); rintro x w2 ⟨rfl, rfl⟩)
          | ((with_reducible refine (HB.out _).mono ?_); rintro x w3 ⟨rfl, hE3⟩; have B3 := B0.ev hE3; have E3 := hE0.trans hE3; obtain ⟨c0, c1, c2, c3, c4, c5, c6, c7⟩ := B3.cs; obtain ⟨f0, f1, f2, f3, f4, f5, f6, f7⟩ := B3.fs)
          | ((with_reducible refine (HW.out _).mono ?_); rintro x w4 ⟨rfl, hE4⟩; have B4 := B3.ev hE4; have E4 := E3.trans hE4; obtain ⟨c0, c1, c2, c3, c4, c5, c6, c7⟩ := B4.cs; obtain ⟨f0, f1, f2, f3, f4, f5, f6, f7⟩ := B4.fs))
        rw [tkSet_fold]; refine bodyPost_ret (tk_done _ B3 _ _ _ _ _ _ rfl rfl) rfl ?_; exact ⟨rfl, E3.over1 (tkSet_but _ _ _ _ _ _ _ _) (Nat.le_refl _)⟩
      · have hp' : ((tl.length : Int) = (s.size : Int)) := by rw [htz] at hp; simpa using hp
        by_cases hmin : m = -9223372036854775808
        · obtain rfl : Y = sxWrong 12 0 := by rw [HG.out]; simp [hmin]
          subst hmin
          clear HG
          go_enter Tryz.func94, Tryz.ntmps94
          go_wp2_with (first
            | ((with_reducible refine (HT.out _).mono ?_); rintro x w1 ⟨rfl, rfl⟩)
            | ((with_reducible refine (HR.out _).mono ?_); rintro x w2 ⟨rfl, rfl⟩)
            | ((with_reducible refine (HB.out _).mono ?_); rintro x w3 ⟨rfl, hE3⟩; have B3 := B0.ev hE3; have E3 := hE0.trans hE3; obtain ⟨c0, c1, c2, c3, c4, c5, c6, c7⟩ := B3.cs; obtain ⟨f0, f1, f2, f3, f4, f5, f6, f7⟩ := B3.fs)
            | ((with_reducible refine (HW.out _).mono ?_); rintro x w4 ⟨rfl, hE4⟩; have B4 := B3.ev hE4; have E4 := E3.trans hE4; obtain ⟨c0, c1, c2, c3, c4, c5, c6, c7⟩ := B4.cs; obtain ⟨f0, f1, f2, f3, f4, f5, f6, f7⟩ := B4.fs))
          rw [tkSet_fold]; refine bodyPost_ret (tk_done _ B4 _ _ _ _ _ _ rfl rfl) rfl ?_
          exact ⟨rfl, E4.over1 (tkSet_but _ _ _ _ _ _ _ _) (Nat.le_refl _)⟩
        · obtain rfl : Y = ⟨3, [], -m, r, 0, 0⟩ := by rw [HG.out]; simp [hmin]
          clear HG
          have i1 : wrap64 (-m) = -m := by unfold wrap64; omega
          go_enter Tryz.func94, Tryz.ntmps94
          go_wp2_with (first
            | ((with_reducible refine (HT.out _).mono ?_); rintro x w1 ⟨rfl, rfl⟩)
            | ((with_reducible refine (HR.out _).mono ?_); rintro x w2 ⟨rfl, rfl⟩)
            | ((with_reducible refine (HB.out _).mono ?_); rintro x w3 ⟨rfl, hE3⟩; have B3 := B0.ev hE3; have E3 := hE0.trans hE3; obtain ⟨c0, c1, c2, c3, c4, c5, c6, c7⟩ := B3.cs; obtain ⟨f0, f1, f2, f3, f4, f5, f6, f7⟩ := B3.fs)
            | ((with_reducible refine (HW.out _).mono ?_); rintro x w4 ⟨rfl, hE4⟩; have B4 := B3.ev hE4; have E4 := E3.trans hE4; obtain ⟨c0, c1, c2, c3, c4, c5, c6, c7⟩ := B4.cs; obtain ⟨f0, f1, f2, f3, f4, f5, f6, f7⟩ := B4.fs))
          rw [tkSet_fold]; refine bodyPost_ret (tk_done _ B3 _ _ _ _ _ _ rfl rfl) rfl ?_; exact ⟨rfl, E3.over1 (tkSet_but _ _ _ _ _ _ _ _) (Nat.le_refl _)⟩
    · obtain rfl : Y = sxWrong 12 0 := HG.out
      clear HG
      go_enter Tryz.func94, Tryz.ntmps94
      go_wp2_with (first
        | ((with_reducible refine (HT.out _).mono ?_); rintro x w1 ⟨rfl, rfl⟩)
        | ((with_reducible refine (HR.out _).mono ?_); rintro x w2 ⟨rfl, rfl⟩)
        | ((with_reducible refine (HB.out _).mono ?_); rintro x w3 ⟨rfl, hE3⟩; have B3 := B0.ev hE3; have E3 := hE0.trans hE3; obtain ⟨c0, c1, c2, c3, c4, c5, c6, c7⟩ := B3.cs; obtain ⟨f0, f1, f2, f3, f4, f5, f6, f7⟩ := B3.fs)
        | ((with_reducible refine (HW.out _).mono ?_); rintro x w4 ⟨rfl, hE4⟩; have B4 := B3.ev hE4; have E4 := E3.trans hE4; obtain ⟨c0, c1, c2, c3, c4, c5, c6, c7⟩ := B4.cs; obtain ⟨f0, f1, f2, f3, f4, f5, f6, f7⟩ := B4.fs))
      rw [tkSet_fold]; refine bodyPost_ret (tk_done _ B4 _ _ _ _ _ _ rfl rfl) rfl ?_
      exact ⟨rfl, E4.over1 (tkSet_but _ _ _ _ _ _ _ _) (Nat.le_refl _)⟩
end Go.Proofs.YtojbahjebfcmgaaGreatDoor
