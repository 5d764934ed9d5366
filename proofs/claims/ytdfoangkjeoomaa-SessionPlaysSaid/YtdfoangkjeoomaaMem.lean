/-
  Words for memory: a slice of bytes that reads as a list, and what keeps it. Over the kit's own words ('Below', 'ownsRow'); of the program only the number of the type uint8 is used.
-/
import Derived.Test.YtdfoangkjeoomaaRegion
import Derived.WalkKit
import Derived.WalkSpells
import Derived.Deep.AppendLies
import Derived.Lib.BufferRead
import Derived.Laws.AppendOwnNone
import Derived.Lib.SlBytesConst
namespace Go.Proofs.Ytdfoangkjeoomaa
open Go.RowKit

/-- The cell that holds a byte; a list of them. -/
def bv (c : UInt8) : Value := .int .u8 (c.toNat : Int)
def bvs (l : List UInt8) : List Value := l.map bv
theorem bvs_length (l : List UInt8) : (bvs l).length = l.length := by simp [bvs]
theorem bvs_append (l m : List UInt8) : bvs (l ++ m) = bvs l ++ bvs m := by simp [bvs]
theorem bvs_one (l : List UInt8) : ∀ u ∈ bvs l, u.oneCell' = true := by
  intro u hu
  obtain ⟨_, _, rfl⟩ := List.mem_map.1 hu
  rfl
theorem bvs_get {l : List UInt8} {j : Nat} {u : Value} (h : (bvs l)[j]? = some u) : j < l.length ∧ u = .int .u8 ((l.getD j 0).toNat : Int) := by
  have hj : j < l.length := by
    have := (List.getElem?_eq_some_iff.1 h).1
    simpa [bvs] using this
  refine ⟨hj, ?_⟩
  simp [bvs, hj] at h
  simp [List.getD, hj, ← h, bv]
theorem bvs_at {l : List UInt8} {j : Nat} (h : j < l.length) : (bvs l)[j]? = some (.int .u8 ((l.getD j 0).toNat : Int)) := by
  simp [bvs, h, bv, List.getD]

/-- The slice value (A, n, cap) holds the bytes l in the world w. -/
structure Bs (w : World) (A : Option Addr) (n cap : Nat) (l : List UInt8) : Prop where
  len : l.length = n
  le : n ≤ cap
  max : cap ≤ 9223372036854775807
  nil : A = none → n = 0 ∧ cap = 0
  rd : 0 < n → ∃ b off, A = some ⟨b, off, none⟩ ∧ b < w.heap.size ∧ ∀ i, i < n → w.cell? ⟨b, off + i, none⟩ = some (.int .u8 ((l.getD i 0).toNat : Int))

theorem Bs.below {w w' : World} {A : Option Addr} {n cap : Nat} {l : List UInt8} (h : Bs w A n cap l) (hb : Below w.heap.size w w') : Bs w' A n cap l :=
  ⟨h.len, h.le, h.max, h.nil, fun hn => by
    obtain ⟨b, off, e, hlt, hc⟩ := h.rd hn
    exact ⟨b, off, e, Nat.lt_of_lt_of_le hlt hb.size, fun i hi => (hb.cell (p := ⟨b, off + i, none⟩) hlt).trans (hc i hi)⟩⟩

theorem Bs.own {w : World} {base cap n : Nat} {A : Option Addr} {l : List UInt8} (h : w.ownsRow base 5 1 (.slice A n cap) n (bvs l)) : Bs w A n cap l := by
  have hl : l.length = n := by have := h.1; simpa [bvs] using this
  rcases h.2 with ⟨hv, hn⟩ | ⟨g, c, cur, hv, hg, hh, hnc, hcm, hcs, htake⟩
  · injection hv with h1 h2 h3
    subst h1; subst h2; subst h3
    exact ⟨hl, Nat.le_refl _, by omega, fun _ => ⟨rfl, rfl⟩, fun h0 => absurd h0 (by omega)⟩
  · injection hv with h1 h2 h3
    subst h1; subst h3
    refine ⟨hl, hnc, by simpa [maxLen] using hcm, (by simp), fun h0 => ⟨g, 0, rfl, (Array.getElem?_eq_some_iff.1 hh).1, fun i hi => ?_⟩⟩
    have h4 := h.cellAt i (by omega)
    rw [Nat.zero_add, h4, bvs_at (by omega)]

/-- What is appended: its cells lie where the address says. -/
theorem Bs.cells {w : World} {A : Option Addr} {n cap : Nat} {l : List UInt8} (h : Bs w A n cap l) : ∀ ad, A = some ad → ∀ j u, (bvs l)[j]? = some u → w.cell? (ad.add j) = some u := by
  intro ad hA j u hu
  obtain ⟨hj, rfl⟩ := bvs_get hu
  have hn := h.len
  obtain ⟨b, off, e, _, hc⟩ := h.rd (by omega)
  rw [hA] at e
  obtain rfl := Option.some.inj e
  rw [Addr.add_lit]
  exact hc j (by omega)

/-- 'string(b)'. -/
theorem Bs.str {P : Program} {w : World} {A : Option Addr} {n cap : Nat} {l : List UInt8} (h : Bs w A n cap l) (src dst e : TypeId)
    (hs : P.underlying src = some (.slice e)) (he : P.underlying e = some (.int .u8)) (hd : P.underlying dst = some .string) :
    (convert src dst (.slice A n cap)).run P w = .ok (.string ⟨l.toArray⟩) w := by
  have hn := h.len
  cases A with
  | none =>
    obtain ⟨h0, h1⟩ := h.nil rfl
    have hl : l = [] := List.eq_nil_of_length_eq_zero (by omega)
    subst hl; subst h0
    exact Lib.run_convert_nil_bytes w src dst e cap hs he hd
  | some ad =>
    subst hn
    refine run_convert_bytes_back w src dst e ad cap l hs he hd (fun j hj => ?_)
    have := h.cells ad rfl j (.int .u8 ((l.getD j 0).toNat : Int)) (bvs_at hj)
    simpa [List.getD, hj] using this

/-- 'b[:k]', 'b[k:]': the value as the model reckons it. -/
theorem Bs.to {w : World} {A : Option Addr} {n cap : Nat} {l : List UInt8} (h : Bs w A n cap l) {k : Nat} (hk : k ≤ n) : Bs w A k cap (l.take k) :=
  ⟨by rw [List.length_take, h.len]; omega, by have := h.le; omega, h.max, fun e => by have := h.nil e; omega, fun h0 => by
    obtain ⟨b, off, e, hlt, hc⟩ := h.rd (by omega)
    refine ⟨b, off, e, hlt, fun i hi => ?_⟩
    rw [hc i (by omega)]
    simp [List.getD, hi]⟩
/-- The address of 'b[k:]', in the walk's own spelling. -/
def from_ (A : Option Addr) (cap k : Nat) : Option Addr := if cap = k then A else Option.map (fun x => { block := x.block, off := x.off + k }) A
theorem Bs.from_ {w : World} {A : Option Addr} {n cap : Nat} {l : List UInt8} (h : Bs w A n cap l) {k : Nat} (hk : k ≤ n) : Bs w (from_ A cap k) (n - k) (cap - k) (l.drop k) :=
  ⟨by rw [List.length_drop, h.len], by have := h.le; omega, by have := h.max; omega,
   fun e => by
    have := h.le
    unfold Go.Proofs.Ytdfoangkjeoomaa.from_ at e
    split at e
    · omega
    · have := h.nil (by simpa using e); omega,
   fun h0 => by
    obtain ⟨b, off, rfl, hlt, hc⟩ := h.rd (by omega)
    have := h.le
    unfold Go.Proofs.Ytdfoangkjeoomaa.from_
    rw [if_neg (by omega)]
    refine ⟨b, off + k, rfl, hlt, fun i hi => ?_⟩
    rw [Nat.add_assoc, hc (k + i) (by omega)]
    simp [List.getD]⟩

/-- v is a slice of new memory that holds l; what was there is as it was. -/
def Fresh (l : List UInt8) (w w' : World) (v : Value) : Prop :=
  ∃ A cap, v = .slice A l.length cap ∧ w'.ownsRow w.heap.size 5 1 (.slice A l.length cap) l.length (bvs l) ∧ Below w.heap.size w w'
theorem Fresh.mk {l : List UInt8} {w w' : World} {v : Value} (h : w'.ownsRow w.heap.size 5 1 v l.length (bvs l)) (hb : Below w.heap.size w w') : Fresh l w w' v := by
  rcases h.2 with ⟨rfl, hn⟩ | ⟨g, cap, cur, rfl, _⟩
  · exact ⟨none, 0, by rw [hn], by rw [hn] at h ⊢; exact h, hb⟩
  · exact ⟨_, _, rfl, h, hb⟩
theorem Fresh.none_ {w w' : World} (hb : Below w.heap.size w w') : Fresh [] w w' (.slice none 0 0) := Fresh.mk (World.ownsRow_nil _ _ _ _) hb

/-- append onto a row of the call's own, the source a slice of bytes whatever (nil, empty, cut). The element's row of the table comes as one fact. -/
theorem wpList_append_bytes {P : Program} {w : World} {ops : Array Oper} {rest : List Oper} {o : Oper} {a : Act} {Q : Exit → Act → World → Prop} (hgd : o.guard = none) (s x : Operand)
    (ho : o.op = .call { callee := .builtin .append, args := #[s, x], argTypes := #[32, 32] })
    (ht : P.underlying 32 = some (.slice 5)) (hi : (P.info? 5).map (fun i => (i.zero, i.size, i.bytes)) = some (some (.int .u8 0), 1, 1))
    (base : Nat) (v : Value) (n : Nat) (xs : List UInt8) (hs : a.eval s = v) (hown : w.ownsRow base 5 1 v n (bvs xs))
    (A : Option Addr) (m c : Nat) (l : List UInt8) (hx : a.eval x = .slice A m c) (hB : Bs w A m c l) (hbytes : n + m ≤ 140737488355328) (hbase : base ≤ w.heap.size)
    (h : ∀ v' w', w'.ownsRow base 5 1 v' (n + m) (bvs (xs ++ l)) → w.grownBy w' v.ownBlock → wpList P ops Q rest (a.put o.dst v') w') : wpList P ops Q (o :: rest) a w := by
  obtain ⟨i, hi0, hz, hsz, hby⟩ := info_parts hi
  have hl := hB.len
  cases A with
  | none =>
    obtain ⟨h0, h1⟩ := hB.nil rfl
    subst h0; subst h1
    have hnil : l = [] := List.eq_nil_of_length_eq_zero hl
    subst hnil
    refine wpList_append_own_none hgd s x 32 ho base 5 i 1 ht hi0 v n (bvs xs) hs hown hx (h v w (by simpa using hown) (World.grownBy.refl _ _))
  | some ad =>
    refine wpList_append_own w hgd s x 32 ho base 5 i (.int .u8 0) 1 1 ht hi0 hz hsz hby rfl (by decide) v n (bvs xs) hs hown ad m c (bvs l) hx (by rw [bvs_length, hl]; omega) (hB.cells ad rfl) (bvs_one l) (by unfold maxLen; omega) (by omega) hbase ?_
    intro v' w' h1 h2 _
    exact h v' w' (by rw [bvs_append]; exact h1) h2

/-- The call gives back a slice of new memory that holds l, and turns nothing that was there. -/
def RetFresh (l : List UInt8) (w : World) (e : Ending) (w' : World) : Prop := ∃ v, e = .returned v ∧ Fresh l w w' v
/-- The same beside a bool. -/
def RetFreshB (l : List UInt8) (ok : Bool) (w : World) (e : Ending) (w' : World) : Prop := ∃ v, e = .returned (.tuple #[v, .bool ok]) ∧ Fresh l w w' v

/-- The value is a slice that holds l. -/
def Holds (l : List UInt8) : Value → World → Prop := fun v w => ∃ A n cap, v = .slice A n cap ∧ Bs w A n cap l
theorem Holds.mono (l : List UInt8) : Mono (Holds l) := by
  rintro v w w' hE ⟨A, n, cap, rfl, h⟩
  exact ⟨A, n, cap, rfl, h.below hE⟩
theorem Fresh.holds {l : List UInt8} {w w' : World} {v : Value} (h : Fresh l w w' v) : Holds l v w' := by
  obtain ⟨A, cap, rfl, ho, _⟩ := h
  exact ⟨A, _, cap, rfl, Bs.own ho⟩
theorem Fresh.ev {l : List UInt8} {w w' : World} {v : Value} (h : Fresh l w w' v) : Ev w w' := by
  obtain ⟨_, _, _, _, hb⟩ := h
  exact hb

/-- The operation 'string(b)'. -/
theorem run_str {P : Program} {ρ : Operand → Value} {o : Oper} {x : Operand} {v : Value} {l : List UInt8} {w : World} (ho : o.op = .convert 32 9 x)
    (hs : P.underlying 32 = some (.slice 5)) (he : P.underlying 5 = some (.int .u8)) (hd : P.underlying 9 = some .string)
    (h : ρ x = v) (hH : Holds l v w) : (execOp ρ o).run P w = .ok (.value (.string ⟨l.toArray⟩)) w := by
  obtain ⟨A, n, cap, rfl, hB⟩ := hH
  unfold execOp
  rw [ho]
  simp [h, hB.str 32 9 5 hs he hd]

theorem own_ev {w w' : World} {base : Nat} {e : TypeId} {size : Nat} {v : Value} {n : Nat} {xs : List Value} (h : w.ownsRow base e size v n xs) (hE : Ev w w') : w'.ownsRow base e size v n xs := by
  refine ⟨h.1, ?_⟩
  rcases h.2 with h2 | ⟨g, cap, cur, hv, hg, hh, r⟩
  · exact Or.inl h2
  · exact Or.inr ⟨g, cap, cur, hv, hg, by rw [hE.block g (Array.getElem?_eq_some_iff.1 hh).1]; exact hh, r⟩

theorem Bs.nil_ (w : World) : Bs w none 0 0 [] := ⟨rfl, Nat.le_refl _, by omega, fun _ => ⟨rfl, rfl⟩, fun h => absurd h (by omega)⟩
/-- Out of 'open_ints': a slice of bytes that came in holds some bytes. -/
theorem Bs.came {w : World} {a : Addr} {len cap : Nat} {zs : List Int} (hl : len ≤ cap) (hm : cap ≤ maxLen) (hz : zs.length = cap)
    (hcell : ∀ i, i < zs.length → w.cell? (a.add i) = some (.int .u8 (zs.getD i 0))) (hwz : ∀ n ∈ zs, (Lit.int .u8 n).wf = true) : ∃ l, Bs w (some a) len cap l := by
  refine ⟨(zs.take len).map fun z => UInt8.ofNat z.toNat, ⟨by simp; omega, hl, by simpa [maxLen] using hm, by simp, fun h0 => ?_⟩⟩
  obtain ⟨b, off, spot⟩ := a
  have hc := hcell 0 (by omega)
  have hspot : spot = none := by simpa [Addr.add] using World.cell?_spot hc
  subst hspot
  have hb : b < w.heap.size := by
    have := World.block_lt_of_cell? w _ hc
    simpa [Addr.add] using this
  refine ⟨b, off, rfl, hb, fun i hi => ?_⟩
  have h1 := hcell i (by omega)
  rw [Addr.add_lit] at h1
  rw [h1]
  have hi' : i < zs.length := by omega
  have hw := hwz zs[i] (List.getElem_mem hi')
  have hbd : 0 ≤ zs[i] ∧ zs[i] ≤ 255 := by simpa [Lit.wf, IntKind.min, IntKind.max, IntKind.signed, IntKind.bits] using hw
  simp [List.getD, hi, hi']
  omega

theorem bvs_set (l : List UInt8) (k : Nat) (y : UInt8) : bvs (l.set k y) = (bvs l).set k (.int .u8 (y.toNat : Int)) := by
  simp [bvs, bv, List.map_set]

end Go.Proofs.Ytdfoangkjeoomaa
