/-
  Texts that belong together: Package eval: tables in memory. Package eval: places, values. Package eval: meet. Package eval: Defs.
-/
import Derived.Test.YthpiobkghfdkkaaGreatZ38O
import Derived.Test.YthpiobkghfdkkaaGreatZ22O
import Derived.Test.YthpiobkghfdkkaaGreatZ34O
import Derived.Test.YthpiobkghfdkkaaGreatZ24O
import Derived.Test.YthpiobkghfdkkaaGreatZ11O
import Derived.BigQuiet
import Derived.Test.YthpiobkghfdkkaaGreatZ35O
import Derived.Test.YthpiobkghfdkkaaGreatZ5O
namespace Go.Proofs.YthpiobkghfdkkaaGreat
open Go.RowKit
set_option linter.unusedVariables false

/-- A table as it lies. -/
structure TM where
  name : By
  cA : Option Addr
  cc : Nat
  cols : List C
  rA : Option Addr
  rc : Nat
  rows : List I
def tc (t : TM) : List Value := [.string ⟨t.name.toArray⟩, .slice t.cA t.cols.length t.cc, .slice t.rA t.rows.length t.rc]
theorem encT : Enc 3 tc := ⟨by omega, fun _ => rfl, fun x u hu => by
  simp [tc] at hu
  rcases hu with rfl | rfl | rfl <;> rfl⟩
structure TmAt (w : World) (t : TM) : Prop where
  cols : Cs w t.cA t.cols.length t.cc t.cols
  rows : SetIn t.rows w t.rA t.rows.length t.rc
theorem TmAt.ev {w w' : World} {t : TM} (h : TmAt w t) (hE : Ev w w') : TmAt w' t := ⟨h.cols.ev hE, h.rows.ev hE⟩
structure TsAt (w : World) (A : Option Addr) (n cap : Nat) (l : List TM) : Prop where
  sl : Sl 3 tc w A n cap l
  each : ∀ t ∈ l, TmAt w t
theorem TsAt.ev {w w' : World} {A : Option Addr} {n cap : Nat} {l : List TM} (h : TsAt w A n cap l) (hE : Ev w w') : TsAt w' A n cap l := ⟨h.sl.ev hE, fun t ht => (h.each t ht).ev hE⟩
theorem TsAt.cell {w : World} {A : Option Addr} {n cap : Nat} {l : List TM} (h : TsAt w A n cap l) {i : Nat} {t : TM} (ht : l[i]? = some t) : ∃ b off, A = some ⟨b, off, none⟩ ∧ b < w.heap.size ∧ w.cell? ⟨b, off + i * 3, none⟩ = some (.string ⟨t.name.toArray⟩) ∧ w.cell? ⟨b, off + i * 3 + 1, none⟩ = some (.slice t.cA t.cols.length t.cc) ∧ w.cell? ⟨b, off + i * 3 + 2, none⟩ = some (.slice t.rA t.rows.length t.rc) := by
  have hi := (List.getElem?_eq_some_iff.1 ht).1
  have hl := h.sl.len
  obtain ⟨b, off, e, hlt, hc⟩ := h.sl.rd (by omega)
  exact ⟨b, off, e, hlt, hc i t ht 0 _ rfl, hc i t ht 1 _ rfl, hc i t ht 2 _ rfl⟩
def TM.df (t : TM) : Df := (t.name, t.cols)
end Go.Proofs.YthpiobkghfdkkaaGreat

namespace Go.Proofs.YthpiobkghfdkkaaGreat
open Go.RowKit
set_option linter.unusedVariables false

end Go.Proofs.YthpiobkghfdkkaaGreat

namespace Go.Proofs.YthpiobkghfdkkaaGreat
open Go.RowKit
set_option linter.unusedVariables false

end Go.Proofs.YthpiobkghfdkkaaGreat

namespace Go.Proofs.YthpiobkghfdkkaaGreat
open Go.RowKit
set_option linter.unusedVariables false

/-- One element in a slice made since. -/
def OneEl {α : Type} (k : Nat) (enc : α → List Value) (n0 : Nat) (P : World → α → Prop) (v : Value) (w : World) : Prop := ∃ g x, v = .slice (some ⟨g, 0, none⟩) 1 1 ∧ n0 ≤ g ∧ Sl k enc w (some ⟨g, 0, none⟩) 1 1 [x] ∧ P w x
/-- A slice of its own, with one element more. -/
def GrownTo {α : Type} (et : TypeId) (k : Nat) (enc : α → List Value) (base : Nat) (v0 : Value) (w0 : World) (Z : List α) (P : World → α → Prop) (loc : α → Option Addr) (v : Value) (w : World) : Prop := ∃ x, Ow et k enc base w v (Z ++ [x]) ∧ P w x ∧ Sprung w0 v0 v ∧ ∀ ad, loc x = some ad → ad.block ∉ foot v
theorem OneEl.mono {α : Type} {k : Nat} {enc : α → List Value} {n0 : Nat} {P : World → α → Prop} (hP : ∀ w w' x, Ev w w' → P w x → P w' x) : Mono (OneEl k enc n0 P) := fun v w w' hE ⟨g, x, e, h1, h2, h3⟩ => ⟨g, x, e, h1, h2.ev hE, hP _ _ _ hE h3⟩
theorem OneEl.monoB {α : Type} {k : Nat} {enc : α → List Value} {n0 : Nat} {P : World → α → Prop} {K : List Nat} (hK : ∀ k ∈ K, k < n0) (hP : ∀ w w' x, But K w w' → P w x → P w' x) : MonoB K (OneEl k enc n0 P) := fun v w w' hB ⟨g, x, e, h1, h2, h3⟩ => ⟨g, x, e, h1, h2.but hB fun ad ea hm => by cases ea; have h5 : g < n0 := hK _ hm; omega, hP _ _ _ hB h3⟩
theorem GrownTo.mono {α : Type} {et : TypeId} {k : Nat} {enc : α → List Value} {base : Nat} {v0 : Value} {w0 : World} {Z : List α} {P : World → α → Prop} {loc : α → Option Addr} (hP : ∀ w w' x, Ev w w' → P w x → P w' x) : Mono (GrownTo et k enc base v0 w0 Z P loc) := fun v w w' hE ⟨x, h1, h2, h3, h4⟩ => ⟨x, h1.ev hE, hP _ _ _ hE h2, h3, h4⟩
/-- The append. -/
theorem OneEl.append {α : Type} {et : TypeId} {k : Nat} {enc : α → List Value} {n0 base : Nat} {w0 w : World} {P : World → α → Prop} {loc : α → Option Addr} {v0 x : Value} {Z : List α} (h : OneEl k enc n0 P x w) (E : Enc k enc) (T ty : TypeId) (ht : Tryz.prog.underlying T = some (.slice et)) {zero : Value} {bytes : Nat} (hi : (Tryz.prog.info? et).map (fun i => (i.zero, i.size, i.bytes)) = some (some zero, k, bytes)) (hz : zero.cells.size = k)
    (hE : Ev w0 w) (hown : Ow et k enc base w0 v0 Z) (hn : n0 = w0.heap.size) (hP : ∀ w w' x, But (foot v0) w w' → P w x → P w' x) (hloc : ∀ w x ad, P w x → loc x = some ad → n0 ≤ ad.block ∧ ad.block < w.heap.size) (hbytes : (Z.length + 1) * bytes ≤ 140737488355328) (hsm : Z.length + 1 ≤ 1000000000) (hbase : base ≤ w.heap.size) :
    ∃ v' w', (Builtin.append_ #[T, T] ty #[v0, x]).run Tryz.prog w = .ok v' w' ∧ GrownTo et k enc base v0 w0 Z P loc v' w' ∧ But (foot v0) w w' := by
  obtain ⟨g, y, rfl, hg, hS, hy⟩ := h
  obtain ⟨v', w', hr, ho, hb, hs, _⟩ := run_append_ow (P := Tryz.prog) E T ty ht hi hz (hown.ev hE) (some ⟨g, 0, none⟩) 1 1 [y] hS hbytes hsm hbase
  refine ⟨v', w', hr, ⟨y, ho, hP _ _ _ hb hy, fun q hq => ?_, fun ad ea hm => ?_⟩, hb⟩
  · rcases hs q hq with h1 | h1
    · exact .inl h1
    · exact .inr (Nat.le_trans hE.size h1)
  · obtain ⟨h1, h2⟩ := hloc _ _ _ hy ea
    rcases hs _ (mem_foot.1 hm) with h3 | h3
    · have := (hown.lt h3).2; omega
    · omega
/-- The columns of a table, cloned. -/
def ClonedC (n0 : Nat) (cols : List C) (v : Value) (w : World) : Prop := ∃ A cap, v = .slice A cols.length cap ∧ Cs w A cols.length cap cols ∧ ∀ ad, A = some ad → n0 ≤ ad.block ∧ ad.block < w.heap.size
theorem ClonedC.mono (n0 : Nat) (cols : List C) : Mono (ClonedC n0 cols) := fun v w w' hE ⟨A, cap, e, h1, h2⟩ => ⟨A, cap, e, h1.ev hE, fun ad ea => ⟨(h2 ad ea).1, Nat.lt_of_lt_of_le (h2 ad ea).2 hE.size⟩⟩
theorem ClonedC.monoB {n0 : Nat} (cols : List C) {K : List Nat} (hK : ∀ k ∈ K, k < n0) : MonoB K (ClonedC n0 cols) := fun v w w' hB ⟨A, cap, e, h1, h2⟩ => ⟨A, cap, e, h1.but hB (fun ad ea hm => by have := hK _ hm; have := (h2 ad ea).1; omega), fun ad ea => ⟨(h2 ad ea).1, Nat.lt_of_lt_of_le (h2 ad ea).2 hB.size⟩⟩
def BuiltD (n0 : Nat) (nm : By) (cols : List C) (v : Value) (w : World) : Prop := ∃ A cap, v = .agg #[.string ⟨nm.toArray⟩, .slice A cols.length cap] ∧ Cs w A cols.length cap cols ∧ ∀ ad, A = some ad → n0 ≤ ad.block ∧ ad.block < w.heap.size
theorem BuiltD.mono (n0 : Nat) (nm : By) (cols : List C) : Mono (BuiltD n0 nm cols) := fun v w w' hE ⟨A, cap, e, h1, h2⟩ => ⟨A, cap, e, h1.ev hE, fun ad ea => ⟨(h2 ad ea).1, Nat.lt_of_lt_of_le (h2 ad ea).2 hE.size⟩⟩
theorem BuiltD.monoB {n0 : Nat} (nm : By) (cols : List C) {K : List Nat} (hK : ∀ k ∈ K, k < n0) : MonoB K (BuiltD n0 nm cols) := fun v w w' hB ⟨A, cap, e, h1, h2⟩ => ⟨A, cap, e, h1.but hB (fun ad ea hm => by have := hK _ hm; have := (h2 ad ea).1; omega), fun ad ea => ⟨(h2 ad ea).1, Nat.lt_of_lt_of_le (h2 ad ea).2 hB.size⟩⟩
/-- A definition as Defs makes it. -/
def DefAs (n0 : Nat) (nm : By) (cols : List C) (w : World) (d : DM) : Prop := d.df = (nm, cols) ∧ Cs w d.A d.cols.length d.cap d.cols ∧ ∀ ad, d.A = some ad → n0 ≤ ad.block ∧ ad.block < w.heap.size
theorem DefAs.ev {n0 : Nat} {nm : By} {cols : List C} (w w' : World) (d : DM) (hE : Ev w w') (h : DefAs n0 nm cols w d) : DefAs n0 nm cols w' d := ⟨h.1, h.2.1.ev hE, fun ad ea => ⟨(h.2.2 ad ea).1, Nat.lt_of_lt_of_le (h.2.2 ad ea).2 hE.size⟩⟩
theorem DefAs.but {n0 : Nat} {nm : By} {cols : List C} {K : List Nat} (hK : ∀ k ∈ K, k < n0) (w w' : World) (d : DM) (hB : But K w w') (h : DefAs n0 nm cols w d) : DefAs n0 nm cols w' d := ⟨h.1, h.2.1.but hB (fun ad ea hm => by have := hK _ hm; have := (h.2.2 ad ea).1; omega), fun ad ea => ⟨(h.2.2 ad ea).1, Nat.lt_of_lt_of_le (h.2.2 ad ea).2 hB.size⟩⟩
theorem Tryz.infoDef : (Tryz.prog.info? 148).map (fun i => (i.zero, i.size, i.bytes)) = some (some (.agg #[.string ⟨#[]⟩, .slice none 0 0]), 2, 40) := by kernel_rfl
/-- How far Defs has come. -/
structure DfSt (w : World) (v : Value) (L : List Df) (Z : List DM) (wr : World) : Prop where
  own : Ow 148 2 dc w.heap.size wr v Z
  df : Z.map DM.df = L
  cols : ∀ d ∈ Z, Cs wr d.A d.cols.length d.cap d.cols ∧ ∀ ad, d.A = some ad → w.heap.size ≤ ad.block ∧ ad.block < wr.heap.size ∧ ad.block ∉ foot v
  ev : Ev w wr
theorem DfSt.next {w wr wp w2 : World} {v v2 : Value} {L : List Df} {Z : List DM} {nm : By} {cols : List C} (h : DfSt w v L Z wr) (hE : Ev wr wp) (hb : But (foot v) wp w2) (hG : GrownTo 148 2 dc w.heap.size v wp Z (DefAs wp.heap.size nm cols) DM.A v2 w2) : ∃ d, DfSt w v2 (L ++ [(nm, cols)]) (Z ++ [d]) w2 := by
  obtain ⟨d, ho, ⟨h1, h2, h3⟩, hs, h4⟩ := hG
  have hv2 : ∀ k ∈ foot v2, k ∈ foot v ∨ wp.heap.size ≤ k := fun k hk => (hs k (mem_foot.1 hk)).imp (fun e => mem_foot.2 e) id
  refine ⟨d, ho, by rw [List.map_append, h.df, List.map_cons, List.map_nil, h1], fun x hx => ?_, ?_⟩
  · rcases List.mem_append.1 hx with hx | hx
    · obtain ⟨a1, a2⟩ := h.cols x hx
      refine ⟨(a1.ev hE).but hb fun ad ea hm => (a2 ad ea).2.2 hm, fun ad ea => ⟨(a2 ad ea).1, Nat.lt_of_lt_of_le (a2 ad ea).2.1 (Nat.le_trans hE.size hb.size), fun hm => ?_⟩⟩
      rcases hv2 _ hm with h5 | h5
      · exact (a2 ad ea).2.2 h5
      · have := (a2 ad ea).2.1; have := hE.size; omega
    · rw [List.mem_singleton.1 hx]
      exact ⟨h2, fun ad ea => ⟨by have := (h3 ad ea).1; have := hE.size; have := h.ev.size; omega, (h3 ad ea).2, h4 ad ea⟩⟩
  · exact ((But.of_ev (h.ev.trans hE)).then hb).ev fun k hk => (h.own.lt (mem_foot.1 hk)).1
theorem bx_tab (w : World) (t : TM) : ∃ w0, w.alloc (.cells #[.string ⟨t.name.toArray⟩, .slice t.cA t.cols.length t.cc, .slice t.rA t.rows.length t.rc] 45) = w0 ∧ Ev w w0 ∧ Bx 45 w.heap.size #[.string ⟨t.name.toArray⟩, .slice t.cA t.cols.length t.cc, .slice t.rA t.rows.length t.rc] w0 ∧ w0.heap.size = w.heap.size + 1 := ⟨_, rfl, Ev.alloc _ _, Bx.new _ _ _, by simp⟩
/-- What Defs gives. -/
def DefsOut (L : List Df) (w : World) (e : Ending) (w' : World) : Prop := ∃ (D : List DM) (A : Option Addr) (n cap : Nat), e = .returned (.slice A n cap) ∧ DsAt w' A n cap D ∧ D.map DM.df = L ∧ (∀ ad, A = some ad → ad = ⟨ad.block, 0, none⟩) ∧ Ev w w'

set_option maxRecDepth 100000 in
set_option maxHeartbeats 8000000 in
theorem ev_Defs {A : Option Addr} {n cap : Nat} {l : List TM} (w : World) (h : TsAt w A n cap l) (hn : n ≤ 1000) (hc : ∀ t ∈ l, t.cols.length ≤ 1000 ∧ 0 < t.cols.length) :
    Calls Tryz.prog 89 #[.slice A n cap] w (DefsOut (l.map TM.df) w) := by
  have hmix : Tryz.prog.follows .mixedOrders = true := by kernel_rfl
  have hcl := h.sl.le
  have hcm := h.sl.max
  have HL := Lib.hid h.sl.len
  have H := Lib.hid h
  have HC := Lib.hid hc
  unfold DefsOut
  clear h hc
  go_enter Tryz.func89, Tryz.ntmps89
  go_wp2
  go_loopw [3, 8] (fun av iv wr => ∃ (A1 : Option Addr) (cap1 k : Nat) (Z : List DM), av = .slice A1 k cap1 ∧ iv = .int .i64 (k : Int) ∧ k ≤ n ∧ Hid (Z.length = k) ∧ Hid (DfSt w (.slice A1 k cap1) ((l.take k).map TM.df) Z wr)) (fun _ iv _ => n - (intOf iv).toNat)
  case atStart => exact ⟨none, 0, 0, [], rfl, rfl, Nat.zero_le _, Lib.hid rfl, Lib.hid ⟨Ow.nil_ _, rfl, (fun d hd => by cases hd), Ev.refl _⟩⟩
  case round =>
    obtain ⟨A1, cap1, k, Z, rfl, rfl, hk, HZL, HS⟩ := hrel
    by_cases hlt : k < n
    · obtain ⟨t, ht⟩ := H.out.sl.at hlt
      obtain ⟨b, off, rfl, hb, c0, c1, c2⟩ := (H.out.ev HS.out.ev).cell ht
      obtain ⟨wx, hwx, hEx, hX, hsx⟩ := bx_tab wr t
      have htm := List.mem_of_getElem? ht
      have HT : Hid ((l.take (k + 1)).map TM.df = (l.take k).map TM.df ++ [(t.name, t.cols)]) := Lib.hid (by
        obtain ⟨hk2, e1⟩ := List.getElem?_eq_some_iff.1 ht
        rw [List.take_succ_eq_append_getElem hk2, e1, List.map_append]
        rfl)
      have hcw := ((H.out.each t htm).ev (HS.out.ev.trans hEx)).cols
      have hfk : ∀ q ∈ foot (.slice A1 k cap1), w.heap.size ≤ q ∧ q < wr.heap.size := fun q hq => HS.out.own.lt (mem_foot.1 hq)
      have HKW : Hid (∀ q ∈ foot (.slice A1 k cap1), q < wx.heap.size) := Lib.hid fun q hq => Nat.lt_of_lt_of_le (hfk q hq).2 hEx.size
      have hcb : ∀ ad, t.cA = some ad → ad.block < w.heap.size := fun ad ea => by
        have h1 := (H.out.each t htm).cols
        obtain ⟨b9, o9, e9, h9, _⟩ := h1.rd (HC.out t htm).2
        rw [ea] at e9
        obtain rfl := Option.some.inj e9
        exact h9
      have HCL := Lib.hid (fun w1 (hB : But (foot (.slice A1 k cap1)) wx w1) => clone_cols w1 (hcw.but hB fun ad ea hm => by have := hcb ad ea; have := (hfk _ hm).1; omega) (by have := (HC.out t htm).1; omega) (HC.out t htm).2)
      obtain ⟨bx, hbx⟩ : ∃ bx, bx = wr.heap.size := ⟨_, rfl⟩
      rw [← hbx] at hX
      have HX := Lib.hid hX
      have HBX : Hid (bx ∉ foot (.slice A1 k cap1)) := Lib.hid fun hm => by have := (hfk _ hm).2; omega
      have HOWN := Lib.hid (HS.out.own.ev hEx)
      have HSZ : Hid ((Z.length + 1) * 40 ≤ 140737488355328 ∧ Z.length + 1 ≤ 1000000000) := Lib.hid (by rw [HZL.out]; omega)
      have HSW : Hid (w.heap.size ≤ wx.heap.size) := Lib.hid (HS.out.ev.trans hEx).size
      have HEX := Lib.hid hEx
      have i1 : (0 : Int) ≤ (k : Int) := by omega
      have i2 : (k : Int) < (n : Int) := by omega
      clear ht htm hcw hfk hcb hX hEx hsx
      go_upto_region 5 with fail
      rw [← hbx]
      refine wp_region_slotsB hmix (foot (.slice A1 k cap1)) 8 [fun v _ => v = .slice A1 k cap1, fun v _ => v = .pointer (some ⟨bx, 0, none⟩), fun v _ => v = .string ⟨t.name.toArray⟩, fun v _ => v = .pointer (some ⟨bx, 1, none⟩), fun v _ => v = .slice t.cA t.cols.length t.cc, ClonedC wx.heap.size t.cols, BuiltD wx.heap.size t.name t.cols, OneEl 2 dc wx.heap.size (DefAs wx.heap.size t.name t.cols), GrownTo 148 2 dc w.heap.size (.slice A1 k cap1) wx Z (DefAs wx.heap.size t.name t.cols) DM.A, GrownTo 148 2 dc w.heap.size (.slice A1 k cap1) wx Z (DefAs wx.heap.size t.name t.cols) DM.A]
        23 rfl (by kernel_rfl) ⟨mono_eq _, mono_eq _, mono_eq _, mono_eq _, mono_eq _, ClonedC.mono _ _, BuiltD.mono _ _ _, OneEl.mono DefAs.ev, GrownTo.mono DefAs.ev, GrownTo.mono DefAs.ev, trivial⟩ ⟨.inr (.inr (monoB_eq _ _)), .inr (.inr (monoB_eq _ _)), .inr (.inr (monoB_eq _ _)), .inr (.inr (monoB_eq _ _)), .inr (.inr (monoB_eq _ _)), .inr (.inr (ClonedC.monoB _ HKW.out)), .inr (.inr (BuiltD.monoB _ _ HKW.out)), .inr (.inr (OneEl.monoB HKW.out (DefAs.but HKW.out))), .inl rfl, .inr (.inl (by kernel_rfl)), trivial⟩ ?_ ?_
      · refine ops_cons 0 ?_ (ops_cons 1 ?_ (ops_cons 2 ?_ (ops_cons 3 ?_ (ops_cons 4 ?_ (ops_cons 5 ?_ (ops_cons 6 ?_ (ops_cons 7 ?_ (ops_cons 8 ?_ (ops_cons 9 ?_ (ops_nil 10))))))))))
        · refine opb_value fun a wq c => ⟨(wanted_plain rfl), _, run_move _ rfl wq, (c.was 3 (by kernel_rfl) rfl)⟩
        · refine opb_value fun a wq c => ⟨(wanted_plain rfl), .pointer (some ⟨bx, 0, none⟩), ?_, rfl⟩
          have e_0 : a.eval (.tmp 5) = .pointer (some ⟨bx, 0, none⟩) := (c.was 5 (by kernel_rfl) rfl)
          generalize a.eval = ρ at e_0 ⊢
          simp [execOp, e_0, go_sem]
        · refine opb_value fun a wq c => ⟨(wanted_plain rfl), .string ⟨t.name.toArray⟩, ?_, rfl⟩
          have e_0 : a.eval (.tmp 13) = .pointer (some ⟨bx, 0, none⟩) := (c.new 1 13 (by kernel_rfl) (by kernel_rfl))
          have hc := (HX.out.but c.but HBX.out).cell 0
          generalize a.eval = ρ at e_0 ⊢
          simp [execOp, e_0, go_sem, hc]
        · refine opb_value fun a wq c => ⟨(wanted_plain rfl), .pointer (some ⟨bx, 1, none⟩), ?_, rfl⟩
          have e_0 : a.eval (.tmp 5) = .pointer (some ⟨bx, 0, none⟩) := (c.was 5 (by kernel_rfl) rfl)
          generalize a.eval = ρ at e_0 ⊢
          simp [execOp, e_0, go_sem]
        · refine opb_value fun a wq c => ⟨(wanted_plain rfl), .slice t.cA t.cols.length t.cc, ?_, rfl⟩
          have e_0 : a.eval (.tmp 15) = .pointer (some ⟨bx, 1, none⟩) := (c.new 3 15 (by kernel_rfl) (by kernel_rfl))
          have hc := (HX.out.but c.but HBX.out).cell 1
          generalize a.eval = ρ at e_0 ⊢
          simp [execOp, e_0, go_sem, hc]
        · refine opb_call fun a wq c => ⟨(wanted_plain rfl), 58, #[.slice t.cA t.cols.length t.cc], ?_, ?_⟩
          · rw [run_call 58 _ _ rfl (by kernel_rfl)]
            have e_0 : a.eval (.tmp 16) = .slice t.cA t.cols.length t.cc := (c.new 4 16 (by kernel_rfl) (by kernel_rfl))
            simp [e_0]
          · refine (HCL.out wq c.but).mono ?_
            rintro e wp ⟨v, rfl, hO, hE⟩
            refine ⟨v, rfl, Turns.of_ev hE, ?_⟩
            obtain ⟨A5, cap5, rfl, hS5, hA5⟩ := hO.form encC
            exact ⟨A5, cap5, rfl, hS5, fun ad ea => ⟨Nat.le_trans c.but.size (hA5 ad ea).2.1, (hA5 ad ea).2.2.1⟩⟩
        · refine opb_value fun a wq c => ?_
          have e_0 : a.eval (.tmp 14) = .string ⟨t.name.toArray⟩ := (c.new 2 14 (by kernel_rfl) (by kernel_rfl))
          obtain ⟨A5, cap5, e_1, hS5, hA5⟩ := ((c.new 5 17 (by kernel_rfl) (by kernel_rfl)) : ClonedC wx.heap.size t.cols (a.eval (.tmp 17)) wq)
          refine ⟨(wanted_plain rfl), .agg #[.string ⟨t.name.toArray⟩, .slice A5 t.cols.length cap5], ?_, A5, cap5, rfl, hS5, hA5⟩
          generalize a.eval = ρ at e_0 e_1 ⊢
          simp [execOp, e_0, e_1, go_sem]
        · refine opb_makes fun a wq c => ?_
          obtain ⟨A5, cap5, e_0, hS5, hA5⟩ := ((c.new 6 18 (by kernel_rfl) (by kernel_rfl)) : BuiltD wx.heap.size t.name t.cols (a.eval (.tmp 18)) wq)
          refine ⟨(wanted_plain rfl), .slice (some ⟨wq.heap.size, 0, none⟩) 1 1, wq.alloc (.cells #[.string ⟨t.name.toArray⟩, .slice A5 t.cols.length cap5] 148), ?_, Turns.of_ev (Ev.alloc _ _), wq.heap.size, ⟨t.name, A5, cap5, t.cols⟩, rfl, c.but.size, Sl.one (et := 148) encD wq _ _ rfl, rfl, hS5.ev (Ev.alloc _ _), fun ad ea => ⟨(hA5 ad ea).1, Nat.lt_of_lt_of_le (hA5 ad ea).2 (Ev.alloc _ _).size⟩⟩
          generalize a.eval = ρ at e_0 ⊢
          simp [execOp, e_0, go_sem]
        · refine opb_makes fun a wq c => ?_
          have e_0 : a.eval (.tmp 12) = .slice A1 k cap1 := (c.new 0 12 (by kernel_rfl) (by kernel_rfl))
          have hO_ : OneEl 2 dc wx.heap.size (DefAs wx.heap.size t.name t.cols) (a.eval (.tmp 19)) wq := (c.new 7 19 (by kernel_rfl) (by kernel_rfl))
          obtain ⟨v_, w_, hr_, hG_, hT_⟩ := hO_.append (loc := DM.A) encD 133 133 Tryz.underlying133 Tryz.infoDef rfl (c.evm rfl) HOWN.out rfl (DefAs.but HKW.out) (fun w1 x1 ad h1 ea => h1.2.2 ad ea) HSZ.out.1 HSZ.out.2 (Nat.le_trans HSW.out c.but.size)
          refine ⟨(wanted_plain rfl), v_, w_, ?_, Turns.self hT_, hG_⟩
          unfold execOp
          simp only [resolve, invoke, builtin, Sem.run_bind, Sem.run_pure, Result.andThen_ok, List.map_toArray, List.map_cons, List.map_nil, e_0, hr_]
        · refine opb_value fun a wq c => ⟨(wanted_plain rfl), _, run_assign _ rfl wq, ((c.new 8 20 (by kernel_rfl) (by kernel_rfl)))⟩
      intro s w5 hB hold hnew
      have hG : GrownTo 148 2 dc w.heap.size (.slice A1 k cap1) wx Z (DefAs wx.heap.size t.name t.cols) DM.A (s 3) w5 := hnew 9 3 (by kernel_rfl)
      have f0 : s 0 = .slice (some ⟨b, off, none⟩) n cap := hold 0 (by kernel_rfl)
      have f1 : s 1 = undef := hold 1 (by kernel_rfl)
      have f2 : s 2 = .slice none 0 0 := hold 2 (by kernel_rfl)
      have f4 : s 4 = undef := hold 4 (by kernel_rfl)
      have f6 : s 6 = .slice (some ⟨b, off, none⟩) n cap := hold 6 (by kernel_rfl)
      have f7 : s 7 = .int .i64 (n : Int) := hold 7 (by kernel_rfl)
      have f8 : s 8 = .int .i64 (k : Int) := hold 8 (by kernel_rfl)
      have f22 : s 22 = undef := hold 22 (by kernel_rfl)
      change Exit.inBlock _ _ .normal ⟨#[s 0, s 1, s 2, s 3, s 4, s 5, s 6, s 7, s 8, s 9, s 10, s 11, s 12, s 13, s 14, s 15, s 16, s 17, s 18, s 19, s 20, s 21, s 22], _⟩ _
      simp only [f0, f1, f2, f4, f6, f7, f8, f22]
      clear hold hnew
      generalize s 5 = u5_
      generalize s 9 = u9_
      generalize s 10 = u10_
      generalize s 11 = u11_
      generalize s 12 = u12_
      generalize s 13 = u13_
      generalize s 14 = u14_
      generalize s 15 = u15_
      generalize s 16 = u16_
      generalize s 17 = u17_
      generalize s 18 = u18_
      generalize s 19 = u19_
      generalize s 20 = u20_
      generalize s 21 = u21_
      obtain ⟨d, HD2⟩ := HS.out.next HEX.out hB hG
      obtain ⟨A2, cap2_, hv2, _, _⟩ := HD2.own.form encD
      generalize s 3 = v3 at *
      subst hv2
      have HD3 := Lib.hid HD2
      have HZ2 : Hid ((Z ++ [d]).length = k + 1) := Lib.hid (by rw [List.length_append, HZL.out]; rfl)
      rw [HZ2.out] at HD3
      clear hG HD2 hB
      go_wp2
      rw [HZ2.out]
      go_roundw
      case rel => exact ⟨A2, cap2_, k + 1, Z ++ [d], rfl, by go_num, by omega, HZ2, Lib.hid (by rw [HT.out]; exact HD3.out)⟩
      case measure => simp [intOf]; omega
    · obtain rfl : k = n := by omega
      have HT : Hid (l.take k = l) := Lib.hid (List.take_of_length_le (by rw [HL.out]; exact Nat.le_refl _))
      go_wp2
      go_ret
      have hS := HS.out
      rw [HT.out] at hS
      obtain ⟨A2, cap2_, hv2, hSl2, hA2⟩ := hS.own.form encD
      injection hv2 with e1 e2 e3
      subst e1; subst e3
      refine ⟨Z, A1, k, cap1, rfl, ⟨by have := hSl2; rwa [HZL.out] at this, fun d hd => (hS.cols d hd).1⟩, hS.df, fun ad ea => (hA2 ad ea).2.2.2.1, hS.ev⟩
end Go.Proofs.YthpiobkghfdkkaaGreat
