/-
  Texts that belong together: Package check: the sort of two tables, from SortFunc on. Package check: Defs of two tables. Package check: Defs of one table, of two, wherever they lie. Package check: the law's own tables, Defs of them. Package check: Out.
-/
import Derived.Shelf.Small.Bits
import Derived.Ground.NamesProg
import Derived.Test.YthpiobkghfdkkaaGreatZ37O
import Derived.BigQuiet
import Derived.Test.YthpiobkghfdkkaaGreatZ12O
import Derived.Test.YthpiobkghfdkkaaGreatZ11O
import Derived.Test.YthpiobkghfdkkaaGreatZ27O
import Derived.Test.YthpiobkghfdkkaaGreatZ35O
namespace Go.Proofs
open Go.Shelf
def Tryz.bitsLen_ren : Go.Shelf.Ren := ⟨fun | 125 => 134 | 128 => 147 | 129 => 148 | n => n, fun | 46 => 136 | 3 => 3 | 51 => 172 | 53 => 174 | 4 => 4 | 5 => 5 | 9 => 9 | n => n, fun | n => n⟩
theorem Tryz.bitsLen : Go.Proofs.Lays.n125 Tryz.prog Tryz.bitsLen_ren := {
  mixed := by kernel_rfl
  f125 := Tryz.func134.trans (congrArg some (by kernel_rfl))
  f128 := Tryz.func147.trans (congrArg some (by kernel_rfl))
  f129 := Tryz.func148.trans (congrArg some (by kernel_rfl))
  t3 := Tryz.underlying3
  a3 := Tryz.isAgg3
  z3 := Tryz.sizeOf3
  v3 := Tryz.zeroValue3
  t4 := Tryz.underlying4
  a4 := Tryz.isAgg4
  z4 := Tryz.sizeOf4
  v4 := Tryz.zeroValue4
  t5 := Tryz.underlying5
  a5 := Tryz.isAgg5
  z5 := Tryz.sizeOf5
  v5 := Tryz.zeroValue5
  t9 := Tryz.underlying9
  a9 := Tryz.isAgg9
  z9 := Tryz.sizeOf9
  v9 := Tryz.zeroValue9
  t46 := Tryz.underlying136
  a46 := Tryz.isAgg136
  z46 := Tryz.sizeOf136
  v46 := Tryz.zeroValue136
  t51 := Tryz.underlying172
  a51 := Tryz.isAgg172
  z51 := Tryz.sizeOf172
  v51 := Tryz.zeroValue172
  t53 := Tryz.underlying174
  a53 := Tryz.isAgg174
  z53 := Tryz.sizeOf174
  v53 := Tryz.zeroValue174 }
end Go.Proofs
namespace Go.Proofs.YthpiobkghfdkkaaGreat
open Go.RowKit
set_option linter.unusedVariables false

theorem bits_len (n : Nat) (w : World) (h : n ≤ 1000) : Calls Tryz.prog 134 #[.int .u64 (n : Int)] w fun e w' => e = .returned (.int .i64 (Lib.bitLen n : Nat)) ∧ w' = w := by
  have := Go.Proofs.Any.bits_Len Tryz.bitsLen (n : Int) w (by omega) (by omega)
  exact this
end Go.Proofs.YthpiobkghfdkkaaGreat

namespace Go.Proofs.YthpiobkghfdkkaaGreat
open Go.RowKit
set_option linter.unusedVariables false

theorem bx_34 (w : World) (v : Value) : ∃ w0, w.alloc (.cells #[v] 133) = w0 ∧ Ev w w0 ∧ Bx 133 w.heap.size #[v] w0 ∧ w0.heap.size = w.heap.size + 1 := ⟨_, rfl, Ev.alloc _ _, Bx.new _ _ _, by simp⟩

theorem Tryz.infoIntC : (Tryz.prog.info? 3).map (fun i => (i.zero, i.size, i.bytes)) = some (some (.int .i64 0), 1, 8) := by kernel_rfl
theorem make_2 (u : World) : (Instr.makeSlice 155 (.int .i64 2) (.int .i64 2)).run Tryz.prog u = .ok (.slice (some ⟨u.heap.size, 0, none⟩) 2 2) (u.alloc (.cells #[.int .i64 0, .int .i64 0] 3)) := by
  obtain ⟨i0, hi, hz0, hz1, hz2⟩ := info_parts Tryz.infoIntC
  have h := run_make (P := Tryz.prog) u 155 3 i0 _ Tryz.underlying155 hi hz0 .i64 .i64 2 2 (by omega) (Int.le_refl _) (by rw [hz2]; omega) (by omega)
  rw [hz1, show madeCells (Value.int .i64 0).cells (Int.toNat 2 * 1) = #[.int .i64 0, .int .i64 0] by kernel_rfl] at h
  exact h

end Go.Proofs.YthpiobkghfdkkaaGreat

namespace Go.Proofs.YthpiobkghfdkkaaGreat
open Go.RowKit
set_option linter.unusedVariables false

end Go.Proofs.YthpiobkghfdkkaaGreat

namespace Go.Proofs.YthpiobkghfdkkaaGreat
open Go.RowKit
set_option linter.unusedVariables false

theorem t_ok : colsV tcols = 0 := by decide +kernel
theorem u_ok : colsV ucols = 0 := by decide +kernel
theorem nt_ok : nameV ⟨#[116]⟩ = true := by decide +kernel
theorem nu_ok : nameV ⟨#[117]⟩ = true := by decide +kernel
end Go.Proofs.YthpiobkghfdkkaaGreat

namespace Go.Proofs.YthpiobkghfdkkaaGreat
open Go.RowKit
set_option linter.unusedVariables false

end Go.Proofs.YthpiobkghfdkkaaGreat
