/-
  Texts that belong together: The contracts of value.Show: a Builder that a call has made itself, quotes, digits. strings.Builder.WriteString.
-/
import Derived.Test.YtojbahjebfcmgaaGreatDoorProg
import Derived.Test.YtojbahjebfcmgaaGreatDoorShelf
import Derived.BigQuiet
import Derived.Lib.Builder
import Derived.Lib.AtoiErrMem
import Derived.WalkSmall
import Derived.Test.YtojbahjebfcmgaaGreatDoorZ3W
import Derived.Test.YtojbahjebfcmgaaGreatDoorZ5W
namespace Go.Proofs.YtojbahjebfcmgaaGreatDoor
open Go.RowKit
set_option linter.unusedVariables false

theorem Tryz.sizeBuilder : (Tryz.prog.info? 149).map (·.size) = some 2 := by kernel_rfl
theorem Tryz.liesBuilder : liesAt Tryz.prog Tryz.prog.depth 149 (2 / Tryz.prog.cellsOf 149) 0 149 1 = true := by kernel_rfl

/-- Block b is a Builder that holds l in the slice v; x is its own address, or nil. -/
def Bd (b : Nat) (x v : Value) (l : List UInt8) (w : World) : Prop := w.heap[b]? = some (.cells #[x, v] 149 (0, 0)) ∧ (x = .pointer none ∨ x = .pointer (some ⟨b, 0, none⟩)) ∧ Row w v l
theorem Bd.lt {b : Nat} {x v : Value} {l : List UInt8} {w : World} (h : Bd b x v l w) : b < w.heap.size := (Array.getElem?_eq_some_iff.1 h.1).1
theorem Bd.ne {b : Nat} {x v : Value} {l : List UInt8} {w : World} (h : Bd b x v l w) : v.ownBlock ≠ some b := h.2.2.ne_block h.1 (by decide)
theorem Bd.c0 {b : Nat} {x v : Value} {l : List UInt8} {w : World} (h : Bd b x v l w) : w.cell? ⟨b, 0, none⟩ = some x := by rw [Lib.cell_of_heap h.1]; rfl
theorem Bd.c1 {b : Nat} {x v : Value} {l : List UInt8} {w : World} (h : Bd b x v l w) : w.cell? ⟨b, 1, none⟩ = some v := by rw [Lib.cell_of_heap h.1]; rfl
theorem Bd.f {b : Nat} {x v : Value} {l : List UInt8} {w : World} (h : Bd b x v l w) (i : Nat) : w.frozen? ⟨b, i, none⟩ = false := Lib.frozen_of_heap h.1 i
theorem Bd.but {K : List Nat} {b : Nat} {x v : Value} {l : List UInt8} {w w' : World} (h : Bd b x v l w) (he : But K w w') (hb : b ∉ K) (hv : ∀ g, v.ownBlock = some g → g ∉ K) : Bd b x v l w' := ⟨he.heap h.1 hb, h.2.1, h.2.2.but he hv⟩
theorem Bd.ev {b : Nat} {x v : Value} {l : List UInt8} {w w' : World} (h : Bd b x v l w) (he : Ev w w') : Bd b x v l w' := h.but (But.of_ev (K := []) he) (by simp) (by simp)

/-- A byte that is shown as it is. -/
def plainB (c : UInt8) : Bool := decide (32 ≤ c.toNat ∧ c.toNat ≤ 126 ∧ c.toNat ≠ 34 ∧ c.toNat ≠ 92)
/-- A hexadecimal digit. -/
def hexB (x : Nat) : UInt8 := UInt8.ofNat (if x < 10 then 48 + x else 87 + x)
/-- What is shown of a byte. -/
def showB (c : UInt8) : List UInt8 := if plainB c then [c] else [92, hexB (c.toNat / 16), hexB (c.toNat % 16)]
/-- A text between quotes. -/
def quoteB (l : List UInt8) : List UInt8 := 34 :: (l.flatMap showB ++ [34])

set_option maxRecDepth 100000 in
theorem builder_check (b : Nat) (x v : Value) (l : List UInt8) (w : World) (h : Bd b x v l w) :
    Calls Tryz.prog 196 #[.pointer (some ⟨b, 0, none⟩)] w fun e w' => e = .returned (.tuple #[]) ∧ Bd b (.pointer (some ⟨b, 0, none⟩)) v l w' ∧ But [b] w w' := by
  obtain ⟨j, hj, hjs⟩ := Option.map_eq_some_iff.1 Tryz.sizeBuilder
  have c0 := h.c0
  have f0 := h.f 0
  have hsh : w.shape? b = some (149, 2) := by simp [World.shape?, h.1]
  rcases h.2.1 with rfl | rfl
  · go_enter Tryz.func196, Tryz.ntmps196
    go_wp2
    rw [Lib.run_to_unsafe w ⟨b, 0, none⟩ Tryz.underlying147 Tryz.underlying250 hj (by rw [hjs]; decide) hsh (Nat.zero_lt_succ 1)]
    simp only [Result.andThen]
    rw [Oper.upon_value]
    go_wp2
    rw [run_callFunc_extern (P := Tryz.prog) Tryz.func214 (by kernel_rfl) (by kernel_rfl) (by kernel_rfl) (e := Extern.AbiNoEscape.same) (by kernel_rfl)]
    rw [Lib.run_noEscape]
    simp only [Result.andThen]
    rw [Oper.upon_value]
    go_wp2
    rw [Lib.run_from_unsafe w ⟨b, 0, none⟩ Tryz.underlying250 Tryz.underlying147 hj hsh Tryz.liesBuilder]
    simp only [Result.andThen]
    rw [Oper.upon_value]
    go_wp2
    go_end0
    have hB : But [b] w (w.setCell ⟨b, 0, none⟩ (.pointer (some ⟨b, 0, none⟩))) := But.setCell _ _ (by simp)
    exact ⟨by trivial, ⟨set_heap 0 _ h.1, .inr rfl, h.2.2.but hB (fun g hg hm => h.ne (by simp at hm; exact hm ▸ hg))⟩, hB⟩
  · have hnp : (binOp .neq 147 (.pointer (some ⟨b, 0, none⟩)) (.pointer (some ⟨b, 0, none⟩))).run Tryz.prog w = .ok (.bool false) w := Lib.run_neq_ptr_same w ⟨b, 0, none⟩ Tryz.underlying147 hj
    go_enter Tryz.func196, Tryz.ntmps196
    go_wp2
    go_end0
    exact ⟨by trivial, h, But.refl _ _⟩

theorem Bs.made_byte (w : World) (c : UInt8) : Bs (w.alloc (.cells #[.int .u8 (c.toNat : Int)] 5)) (some ⟨w.heap.size, 0, none⟩) 1 1 [c] := Bs.made [c] _ rfl (by simp)

set_option maxRecDepth 100000 in
set_option maxHeartbeats 800000 in
theorem builder_byte (b : Nat) (x v : Value) (l : List UInt8) (c : UInt8) (w : World) (h : Bd b x v l w) (hl : l.length + 1 ≤ 140737488355328) :
    Calls Tryz.prog 195 #[.pointer (some ⟨b, 0, none⟩), .int .u8 (c.toNat : Int)] w fun e w' => e = .returned .nilIface ∧ ∃ v', Bd b (.pointer (some ⟨b, 0, none⟩)) v' (l ++ [c]) w' ∧ But (b :: foot v) w w' ∧ Sprung w v v' := by
  have HC := Lib.hid (builder_check b x v l w h)
  have hc := c.toNat_lt
  go_enter Tryz.func195, Tryz.ntmps195
  go_wp2_with (first | ((with_reducible refine HC.out.mono ?_); rintro y w1 ⟨rfl, hD1, hB1⟩; have c1 := hD1.c1; have HB := Lib.hid (Bs.made_byte w1 c)) | (at_builtin; refine wpList_append_row rfl (.tmp 11) (.tmp 13) rfl Tryz.underlying139 Tryz.infoU8 v l rfl (hD1.2.2.ev (Ev.alloc _ _)) (some ⟨w1.heap.size, 0, none⟩) 1 1 [c] rfl HB.out (by simp; omega) ?_; intro v2 w2 hr2 hb2 hs2; obtain ⟨A2, n2, cap2, rfl⟩ := hr2.form; have hnb : b ∉ foot v := (fun hm => hD1.ne (mem_foot.1 hm)); have hh2 := hb2.heap (hD1.ev (Ev.alloc _ _)).1 hnb; have d1 : w2.cell? ⟨b, 1, none⟩ = some v := (by rw [Lib.cell_of_heap hh2]; rfl); have f1 : w2.frozen? ⟨b, 1, none⟩ = false := Lib.frozen_of_heap hh2 1))
  go_ret
  have hB3 : But [b] w2 (w2.setCell ⟨b, 1, none⟩ (.slice A2 n2 cap2)) := But.setCell _ _ (by simp)
  have hne := hr2.ne_block hh2 (by decide)
  refine ⟨rfl, _, ⟨set_heap 1 _ hh2, .inr rfl, hr2.but hB3 (fun g hg hm => hne (by simp at hm; exact hm ▸ hg))⟩, ?_, ?_⟩
  · refine ((hB1.wide (K' := b :: foot v) (by simp)).then (But.alloc _)).then ((hb2.wide (K' := b :: foot v) (fun y hy => .inl (List.mem_cons_of_mem _ hy))).then (hB3.wide (by simp)))
  · have hsz := hB1.size
    exact hs2.old (by simp; omega)

theorem isPlain_any (c : UInt8) (w : World) :
    Calls Tryz.prog 216 #[.int .u8 (c.toNat : Int)] w fun e w' => e = .returned (.bool (plainB c)) ∧ w = w' := by
  obtain ⟨b, hb⟩ : ∃ b, plainB c = b := ⟨_, rfl⟩
  have hb' : b = decide (32 ≤ c.toNat ∧ c.toNat ≤ 126 ∧ c.toNat ≠ 34 ∧ c.toNat ≠ 92) := hb.symm
  rw [hb]
  clear hb
  generalize c.toNat = m at *
  have HB := Lib.hid hb'
  clear hb'
  by_cases h1 : (32 : Int) ≤ m
  · by_cases h2 : (m : Int) ≤ 126
    · by_cases h3 : (m : Int) = 34
      · go_enter Tryz.func216, Tryz.ntmps216
        go_wp2
        go_ret
        exact ⟨by rw [HB.out]; simp; omega, rfl⟩
      · have e3 : ((m : Int) != 34) = true := bne_iff_ne.2 h3
        by_cases h4 : (m : Int) = 92
        · go_enter Tryz.func216, Tryz.ntmps216
          go_wp2
          go_ret
          exact ⟨by rw [HB.out]; simp; omega, rfl⟩
        · have e4 : ((m : Int) != 92) = true := bne_iff_ne.2 h4
          go_enter Tryz.func216, Tryz.ntmps216
          go_wp2
          go_ret
          exact ⟨by rw [HB.out]; simp; omega, rfl⟩
    · go_enter Tryz.func216, Tryz.ntmps216
      go_wp2
      go_ret
      exact ⟨by rw [HB.out]; simp; omega, rfl⟩
  · go_enter Tryz.func216, Tryz.ntmps216
    go_wp2
    go_ret
    exact ⟨by rw [HB.out]; simp; omega, rfl⟩


theorem hex_at : ∀ (x : Nat) (h : x < 16), (⟨#[48, 49, 50, 51, 52, 53, 54, 55, 56, 57, 97, 98, 99, 100, 101, 102]⟩ : ByteArray)[x]'h = hexB x := by decide +kernel

set_option maxRecDepth 100000 in
set_option maxHeartbeats 800000 in
theorem writeHex_any (b : Nat) (x v : Value) (l : List UInt8) (c : UInt8) (w : World) (h : Bd b x v l w) (hl : l.length + 3 ≤ 140737488355328) :
    Calls Tryz.prog 217 #[.pointer (some ⟨b, 0, none⟩), .int .u8 (c.toNat : Int)] w fun e w' => e = .returned (.tuple #[]) ∧ ∃ v', Bd b (.pointer (some ⟨b, 0, none⟩)) v' (l ++ [92, hexB (c.toNat / 16), hexB (c.toNat % 16)]) w' ∧ But (b :: foot v) w w' ∧ Sprung w v v' := by
  have hc := c.toNat_lt
  have H1 := fun w1 (h1 : Bd b x v l w1) => builder_byte b x v l 92 w1 h1 (by omega)
  simp only [show (((92 : UInt8).toNat : Nat) : Int) = 92 from rfl] at H1
  have H1 := Lib.hid H1
  have e1 : ∀ hh, (⟨#[48, 49, 50, 51, 52, 53, 54, 55, 56, 57, 97, 98, 99, 100, 101, 102]⟩ : ByteArray)[c.toNat / 16]'hh = hexB (c.toNat / 16) := fun _ => hex_at _ (by omega)
  have e2 : ∀ hh, (⟨#[48, 49, 50, 51, 52, 53, 54, 55, 56, 57, 97, 98, 99, 100, 101, 102]⟩ : ByteArray)[c.toNat % 16]'hh = hexB (c.toNat % 16) := fun _ => hex_at _ (by omega)
  have H2 := Lib.hid (fun v1 w1 (h1 : Bd b (.pointer (some ⟨b, 0, none⟩)) v1 (l ++ [92]) w1) => builder_byte b _ v1 _ (hexB (c.toNat / 16)) w1 h1 (by simp; omega))
  have H3 := Lib.hid (fun v1 w1 (h1 : Bd b (.pointer (some ⟨b, 0, none⟩)) v1 (l ++ [92] ++ [hexB (c.toNat / 16)]) w1) => builder_byte b _ v1 _ (hexB (c.toNat % 16)) w1 h1 (by simp; omega))
  go_enter Tryz.func217, Tryz.ntmps217
  go_wp2_with (first | ((with_reducible refine (H1.out w h).mono ?_); rintro y w1 ⟨rfl, v1, hD1, hB1, hS1⟩) | ((with_reducible refine (H2.out _ _ hD1).mono ?_); rintro y w2 ⟨rfl, v2, hD2, hB2, hS2⟩) | ((with_reducible refine (H3.out _ _ hD2).mono ?_); rintro y w3 ⟨rfl, v3, hD3, hB3, hS3⟩))
  go_end0
  have hT := ((Wrote.mk hB1 hS1).trans (Wrote.mk hB2 hS2)).trans (Wrote.mk hB3 hS3)
  exact ⟨by trivial, v3, by simpa using hD3, hT.but, hT.sprung⟩

theorem flat_succ {l : List UInt8} {k : Nat} (h : k < l.length) : (l.take (k + 1)).flatMap showB = (l.take k).flatMap showB ++ showB (l.getD k 0) := by
  rw [List.take_add_one, List.flatMap_append]
  simp [h, List.getD]
theorem showB_length (c : UInt8) : (showB c).length ≤ 3 := by unfold showB; split <;> simp
theorem flat_length : ∀ l : List UInt8, (l.flatMap showB).length ≤ 3 * l.length
  | [] => by simp
  | c :: r => by
    have h1 := showB_length c
    have h2 := flat_length r
    rw [List.flatMap_cons, List.length_append, List.length_cons]
    omega
theorem Row.base {w : World} {v : Value} {l : List UInt8} {B : Nat} (h : Row w v l) (hv : ∀ g, v.ownBlock = some g → B ≤ g) : w.ownsRow B 5 1 v l.length (bvs l) := by
  refine ⟨h.1, ?_⟩
  rcases h.2 with h2 | ⟨g, cap, cur, rfl, _, r⟩
  · exact .inl h2
  · exact .inr ⟨g, cap, cur, rfl, hv g rfl, r⟩

set_option maxRecDepth 100000 in
set_option maxHeartbeats 1600000 in
theorem quote_any (s : ByteArray) (w : World) (hs : s.size ≤ 1000) :
    Calls Tryz.prog 199 #[.string s] w fun e w' => e = .returned (.string ⟨(quoteB s.data.toList).toArray⟩) ∧ Ev w w' := by
  obtain ⟨b, hb⟩ : ∃ b, b = w.heap.size := ⟨_, rfl⟩
  obtain ⟨w0, hw0⟩ : ∃ w0, w0 = w.alloc (.cells #[.pointer none, .slice none 0 0] 149) := ⟨_, rfl⟩
  have D0 : Bd b (.pointer none) (.slice none 0 0) [] w0 := by rw [hw0, hb]; exact ⟨heap_alloc_new w _, .inl rfl, Row.nil_ _⟩
  have hE0 : Ev w w0 := hw0 ▸ Ev.alloc w _
  have H1 := fun w1 (h1 : Bd b (.pointer none) (.slice none 0 0) [] w1) => builder_byte b _ _ [] 34 w1 h1 (by simp)
  simp only [show (((34 : UInt8).toNat : Nat) : Int) = 34 from rfl, List.nil_append] at H1
  have H1 := Lib.hid H1
  rw [hb] at H1
  go_enter Tryz.func199, Tryz.ntmps199
  go_wp2_with (first | (rw [← hw0]; (with_reducible refine (H1.out w0 (hb ▸ D0)).mono ?_); rintro y w1 ⟨rfl, v1, hD1, hB1, hS1⟩; have hcv := Lib.run_convert_string_bytes (P := Tryz.prog) w1 9 139 5 s Tryz.underlying9 Tryz.underlying139 Tryz.underlying5))
  obtain ⟨g, hg⟩ : ∃ g, g = w1.heap.size := ⟨_, rfl⟩
  obtain ⟨cap, hcap⟩ : ∃ cap, cap = grownCap w1 s.size 0 5 := ⟨_, rfl⟩
  obtain ⟨n, hn⟩ : ∃ n, n = s.size := ⟨_, rfl⟩
  have hle : n ≤ cap := by rw [hn, hcap]; exact grownCap_ge _ _ _ _
  have hmx : cap ≤ maxLen := by rw [hcap]; exact grownCap_le_maxLen _ _ _ _ (by unfold maxLen; omega)
  have hll : s.data.toList.length = n := by rw [hn, Array.length_toList]; rfl
  have hEc : Ev w1 (Lib.bytesWorld w1 5 s) := Lib.bytesWorld_below w1 5 s
  have hBs : Bs (Lib.bytesWorld w1 5 s) (some ⟨g, 0, none⟩) n cap s.data.toList :=
    ⟨hll, hle, by unfold maxLen at hmx; omega, by simp, fun h0 => ⟨g, 0, rfl, by rw [hg, Lib.bytesWorld_size]; omega, fun i hi => by rw [Nat.zero_add, hg]; exact Lib.bytesWorld_cell w1 5 s i (by omega)⟩⟩
  have hg2 : g < (Lib.bytesWorld w1 5 s).heap.size := by rw [hg, Lib.bytesWorld_size]; omega
  have hgw : w.heap.size < g := by have h1 := hB1.size; have h2 := D0.lt; rw [hb] at h2; omega
  have hE1 : Ev w w1 := ((But.of_ev hE0).trans hB1 (fun x hx => .inr (by simp [foot, Value.ownBlock] at hx; omega))).ev (K := []) (by simp)
  have hv1 : ∀ h, v1.ownBlock = some h → w.heap.size ≤ h ∧ h ≠ g := fun h hh => ⟨by
    rcases hS1 h hh with h1 | h1
    · simp [Value.ownBlock] at h1
    · have := hE0.size; omega, by have := hD1.2.2.lt hh; omega⟩
  rw [← hg, ← hcap, ← hn]
  generalize Lib.bytesWorld w1 5 s = w2 at *
  have hD2 := hD1.ev hEc
  have hE2 := hE1.trans hEc
  have HL := Lib.hid hll
  have HN := Lib.hid hn
  clear hcv hg hcap hS1 hB1 hll hD1 hE1 hEc D0 H1 hn
  generalize hb2 : w.heap.size = b' at *
  go_loopw [10] (fun i wr => ∃ (k : Nat) (v : Value), k ≤ n ∧ i = .int .i64 (k : Int) ∧ Bd b' (.pointer (some ⟨b', 0, none⟩)) v (34 :: (s.data.toList.take k).flatMap showB) wr ∧ Bs wr (some ⟨g, 0, none⟩) n cap s.data.toList ∧ Ev w wr ∧ g < wr.heap.size ∧ (∀ h, v.ownBlock = some h → b' ≤ h ∧ h ≠ g)) (fun i _ => n - (intOf i).toNat)
  case atStart => exact ⟨0, v1, Nat.zero_le _, rfl, by simpa using hD2, hBs, hE2, hg2, hv1⟩
  case round =>
    obtain ⟨k, v, hk, rfl, hD, hB, hE, hgr, hv⟩ := hrel
    have hfl := flat_length (s.data.toList.take k)
    have hfk : (s.data.toList.take k).length ≤ k := by simp; omega
    have hn1 : n ≤ 1000 := by rw [HN.out]; exact hs
    by_cases hlt : k < n
    · obtain ⟨c, hc⟩ : ∃ c, s.data.toList.getD k 0 = c := ⟨_, rfl⟩
      have hcell : wr.cell? ⟨g, k, none⟩ = some (.int .u8 (c.toNat : Int)) := by
        obtain ⟨b2, off, e, _, hcl⟩ := hB.rd (by omega)
        simp only [Option.some.injEq, Addr.mk.injEq, and_true] at e
        obtain ⟨rfl, rfl⟩ := e
        have := hcl k hlt
        rw [hc, Nat.zero_add] at this
        exact this
      have HC := Lib.hid hc
      clear hc
      have HP := isPlain_any c wr
      cases hpl : plainB c
      · rw [hpl] at HP
        have HP := Lib.hid HP
        have HW := Lib.hid (writeHex_any b' _ v _ c wr hD (by simp only [List.length_cons]; omega))
        go_wp2_with (first | ((with_reducible refine HP.out.mono ?_); rintro y w3 ⟨rfl, rfl⟩) | ((with_reducible refine HW.out.mono ?_); rintro y w3 ⟨rfl, v3, hD3, hB3, hS3⟩))
        go_roundw
        case rel =>
          have hT : Wrote b' v wr v3 w3 := ⟨hB3, hS3⟩
          refine ⟨k + 1, v3, by omega, by go_num, ?_, hB.but hB3 (fun ad e hm => ?_), ?_, Nat.lt_of_lt_of_le hgr hB3.size, fun h hh => ?_⟩
          · rw [flat_succ (by rw [HL.out]; exact hlt), HC.out]
            have := hD3
            simpa [showB, hpl, List.append_assoc] using this
          · obtain rfl := Option.some.inj e
            rcases List.mem_cons.1 hm with h1 | h1
            · have h2 : g = b' := h1
              omega
            · exact (hv _ (mem_foot.1 h1)).2 rfl
          · refine ((But.of_ev (K := []) hE).trans hB3 fun x hx => .inr ?_).ev (by simp)
            rcases List.mem_cons.1 hx with h1 | h1
            · omega
            · have := (hv _ (mem_foot.1 h1)).1; omega
          · rcases hS3 h hh with h1 | h1
            · exact hv h h1
            · have := hE.size; omega
        case measure => simp [intOf]; omega
      · rw [hpl] at HP
        have HP := Lib.hid HP
        have HW := Lib.hid (builder_byte b' _ v _ c wr hD (by simp only [List.length_cons]; omega))
        go_wp2_with (first | ((with_reducible refine HP.out.mono ?_); rintro y w3 ⟨rfl, rfl⟩) | ((with_reducible refine HW.out.mono ?_); rintro y w3 ⟨rfl, v3, hD3, hB3, hS3⟩))
        go_roundw
        case rel =>
          have hT : Wrote b' v wr v3 w3 := ⟨hB3, hS3⟩
          refine ⟨k + 1, v3, by omega, by go_num, ?_, hB.but hB3 (fun ad e hm => ?_), ?_, Nat.lt_of_lt_of_le hgr hB3.size, fun h hh => ?_⟩
          · rw [flat_succ (by rw [HL.out]; exact hlt), HC.out]
            have := hD3
            simpa [showB, hpl, List.append_assoc] using this
          · obtain rfl := Option.some.inj e
            rcases List.mem_cons.1 hm with h1 | h1
            · have h2 : g = b' := h1
              omega
            · exact (hv _ (mem_foot.1 h1)).2 rfl
          · refine ((But.of_ev (K := []) hE).trans hB3 fun x hx => .inr ?_).ev (by simp)
            rcases List.mem_cons.1 hx with h1 | h1
            · omega
            · have := (hv _ (mem_foot.1 h1)).1; omega
          · rcases hS3 h hh with h1 | h1
            · exact hv h h1
            · have := hE.size; omega
        case measure => simp [intOf]; omega
    · obtain rfl : k = n := by omega
      have HW := builder_byte b' _ v _ 34 wr hD (by simp only [List.length_cons]; omega)
      simp only [show (((34 : UInt8).toNat : Nat) : Int) = 34 from rfl] at HW
      have HW := Lib.hid HW
      have hq : 34 :: (s.data.toList.take k).flatMap showB ++ [34] = quoteB s.data.toList := by rw [List.take_of_length_le (by rw [HL.out]; exact Nat.le_refl _)]; rfl
      have HQ := Lib.hid hq
      have HS := Lib.hid (fun v4 w4 (h4 : Bd b' (.pointer (some ⟨b', 0, none⟩)) v4 (quoteB s.data.toList) w4) (h5 : ∀ h, v4.ownBlock = some h → b' ≤ h) => Tryz.Builder_String_k b' b' (quoteB s.data.toList) w4 (.inr ⟨Nat.le_refl _, v4, h4.1, by have := World.ownsRowF_of (h4.2.2.base h5); rw [Lib.byteCells_length]; exact this, h4.ne⟩) (by simp [quoteB]))
      clear hq
      go_wp2_with (first | ((with_reducible refine HW.out.mono ?_); rintro y w3 ⟨rfl, v3, hD3, hB3, hS3⟩; rw [HQ.out] at hD3; have hv3 : ∀ h, v3.ownBlock = some h → b' ≤ h := (fun h hh => by rcases hS3 h hh with h1 | h1; exact (hv h h1).1; have := hE.size; omega)) | ((with_reducible refine (HS.out _ _ hD3 hv3).mono ?_); rintro y w4 ⟨rfl, _, hb4, _⟩))
      go_ret
      refine ⟨rfl, ?_⟩
      have hE3 : Ev w w3 := by
        refine ((But.of_ev (K := []) hE).trans hB3 fun x hx => .inr ?_).ev (by simp)
        rcases List.mem_cons.1 hx with h1 | h1
        · omega
        · have := (hv _ (mem_foot.1 h1)).1; omega
      rw [← hb2] at hb4
      exact Below.trans hE3 hb4

/-- The library's table of powers of ten reads as it is laid. -/
def Tab (w : World) : Prop := Lib.TabIs Tryz.prog w "internal/strconv.uint64pow10" .u64 Lib.pow10Tab
theorem Tab.ev {w w' : World} (h : Tab w) (hE : Ev w w') : Tab w' := by
  unfold Tab Lib.TabIs World.var? at h ⊢
  cases hg : Tryz.prog.globalNamed "internal/strconv.uint64pow10" with
  | none => simp [hg] at h
  | some g =>
    simp only [hg, Option.bind_some] at h ⊢
    have hlt : g < w.heap.size := by
      rcases Nat.lt_or_ge g w.heap.size with h' | h'
      · exact h'
      · simp [Array.getElem?_eq_none h'] at h
    rw [hE.block g hlt]
    exact h
theorem Ev.grow {w w' : World} (h : ∃ k os, w' = Sort.grow (w.drewN k) os) : Ev w w' := by
  obtain ⟨k, os, rfl⟩ := h
  exact ⟨rfl, rfl, rfl, by rw [Sort.size_grow]; exact Nat.le_add_right _ _, fun i hi => Sort.heap_grow_old (w.drewN k) os hi⟩

/-- P4.2: what Show gives. -/
def showV (k n : Int) (s : ByteArray) : List UInt8 := if rightV k n s then (if k = 1 then Lib.itoa n else quoteB s.data.toList) else [63]

theorem right_size {k n : Int} {s : ByteArray} (h : rightV k n s = true) : s.size ≤ 40 := by
  unfold rightV at h
  split at h
  · obtain ⟨⟨l⟩⟩ := s
    have : l = [] := by simpa using h
    subst this
    decide
  · split at h
    · simp at h; exact h.2
    · cases h

set_option maxRecDepth 100000 in
set_option maxHeartbeats 800000 in
theorem value_show (k n : Int) (s : ByteArray) (w : World) (hT : Tab w) (h0 : -9223372036854775808 ≤ n) (h1 : n ≤ 9223372036854775807) :
    Calls Tryz.prog 166 #[vv k n s] w fun e w' => e = .returned (.string ⟨(showV k n s).toArray⟩) ∧ Ev w w' := by
  have hR := fun w1 => value_right k n s w1
  obtain ⟨w0, hw0⟩ : ∃ w0, w0 = w.alloc (.cells #[.int .i64 k, .int .i64 n, .string s] 211) := ⟨_, rfl⟩
  have B : Boxed w.heap.size k n s w0 := hw0 ▸ Boxed.new k n s w
  have hE0 : Ev w w0 := hw0 ▸ Ev.alloc w _
  cases hr : rightV k n s
  · have hv : showV k n s = [63] := by simp [showV, hr]
    rw [hv]
    rw [hr] at hR
    have HR := Lib.hid hR
    clear hR hr hv
    go_enter Tryz.func166, Tryz.ntmps166
    go_wp2_with (first | (rw [← hw0]; (with_reducible refine (HR.out _).mono ?_); rintro y w1 ⟨rfl, hE1⟩))
    go_ret
    exact ⟨rfl, hE0.trans hE1⟩
  · have hsz := right_size hr
    by_cases hk : k = 1
    · subst hk
      have hv : showV 1 n s = Lib.itoa n := by simp [showV, hr]
      rw [hv]
      rw [hr] at hR
      have HR := Lib.hid hR
      have HF := Lib.hid (fun w1 (h : Tab w1) => Tryz.strconv_FormatInt_10 n h0 h1 w1 h)
      clear hR hr hv
      go_enter Tryz.func166, Tryz.ntmps166
      go_wp2_with (first | (rw [← hw0]; (with_reducible refine (HR.out _).mono ?_); rintro y w1 ⟨rfl, hE1⟩; have B1 := B.ev hE1; have c0 := B1.c0; have c1 := B1.c1; have hT1 := (hT.ev hE0).ev hE1) | ((with_reducible refine (HF.out _ hT1).mono ?_); rintro y w2 ⟨rfl, hg⟩; have hE2 := Ev.grow hg; clear hg))
      go_ret
      exact ⟨rfl, (hE0.trans hE1).trans hE2⟩
    · have hv : showV k n s = quoteB s.data.toList := by simp [showV, hr, hk]
      rw [hv]
      rw [hr] at hR
      have HR := Lib.hid hR
      have HF := Lib.hid (fun w1 => quote_any s w1 (by omega))
      clear hR hr hv
      go_enter Tryz.func166, Tryz.ntmps166
      go_wp2_with (first | (rw [← hw0]; (with_reducible refine (HR.out _).mono ?_); rintro y w1 ⟨rfl, hE1⟩; have B1 := B.ev hE1; have c0 := B1.c0; have c2 := B1.c2) | ((with_reducible refine (HF.out _).mono ?_); rintro y w2 ⟨rfl, hE2⟩))
      go_ret
      exact ⟨rfl, (hE0.trans hE1).trans hE2⟩
end Go.Proofs.YtojbahjebfcmgaaGreatDoor

namespace Go.Proofs.YtojbahjebfcmgaaGreatDoor
open Go.RowKit
set_option linter.unusedVariables false

set_option maxRecDepth 100000 in
set_option maxHeartbeats 800000 in
theorem builder_str (b : Nat) (x v : Value) (l : List UInt8) (s : ByteArray) (w : World) (h : Bd b x v l w) (hl : l.length + s.size ≤ 140737488355328) :
    Calls Tryz.prog 165 #[.pointer (some ⟨b, 0, none⟩), .string s] w fun e w' => e = .returned (.tuple #[.int .i64 (s.size : Int), .nilIface]) ∧ ∃ v', Bd b (.pointer (some ⟨b, 0, none⟩)) v' (l ++ s.data.toList) w' ∧ But (b :: foot v) w w' ∧ Sprung w v v' := by
  have HC := Lib.hid (builder_check b x v l w h)
  go_enter Tryz.func165, Tryz.ntmps165
  go_wp2_with (first | ((with_reducible refine HC.out.mono ?_); rintro y w1 ⟨rfl, hD1, hB1⟩; have c1 := hD1.c1) | ((show wpList _ _ _ (⟨some 14, _, _, _, _, _⟩ :: _) _ _); refine wpList_append_str (o := ⟨some 14, _, _, _, _, _⟩) rfl (.tmp 12) (.tmp 13) rfl Tryz.underlying139 Tryz.underlying9 Tryz.infoU8 v l rfl hD1.2.2 s rfl hl ?_; intro v2 w2 hr2 hb2 hs2; obtain ⟨A2, n2, cap2, rfl⟩ := hr2.form; have hnb : b ∉ foot v := (fun hm => hD1.ne (mem_foot.1 hm)); have hh2 := hb2.heap hD1.1 hnb; have d1 : w2.cell? ⟨b, 1, none⟩ = some v := (by rw [Lib.cell_of_heap hh2]; rfl); have f1 : w2.frozen? ⟨b, 1, none⟩ = false := Lib.frozen_of_heap hh2 1))
  go_ret2
  have hB3 : But [b] w2 (w2.setCell ⟨b, 1, none⟩ (.slice A2 n2 cap2)) := But.setCell _ _ (by simp)
  have hne := hr2.ne_block hh2 (by decide)
  refine ⟨rfl, _, ⟨set_heap 1 _ hh2, .inr rfl, hr2.but hB3 (fun g hg hm => hne (by simp at hm; exact hm ▸ hg))⟩, ?_, ?_⟩
  · refine (hB1.wide (K' := b :: foot v) (by simp)).then ((hb2.wide (K' := b :: foot v) (fun y hy => .inl (List.mem_cons_of_mem _ hy))).then (hB3.wide (by simp)))
  · have hsz := hB1.size
    exact hs2.old hsz
end Go.Proofs.YtojbahjebfcmgaaGreatDoor
