/-
  No cell of these rows narrows 'for every input' (looked for: loops, veiled, ifaces, maps, wideKeys, modest, calm, conditions, laid).
  DERIVED. THE GIVEN ROWS OF THIS SEAT. 6 by the template 'for every input the law returns true; each argument reads behind the call as it read before'; 0 by the template 'total and deterministic' (their statements: YthpiobkghfdkkaaGreatTotals.lean).
  GIVEN WITH THE SEED: the statements are not yours to turn. If you find one false, say at which input.
  Laid BY PROGRAM, IN A SANDBOX (cutbox-rows.mjs): the forced cells as the released guide's own fill.sh prints them over the translation baf1464a0d73e024… (all of the seat's roots in one cut). By AI agents, Wed Nov 11 2026. No macro, syntax, notation, axiom, sorry.
-/
import Derived.Test.YthpiobkghfdkkaaGreatChecked
import GoSem.Claim
import GoSem.ClaimJoined
import GoSem.ClaimMapViews
import Derived.JoinedTies
import Derived.KernelRfl
namespace Go.Proofs.YthpiobkghfdkkaaGreat
/- THE CELL 'sum', in the pinned program and in every row, IS THE sha256 OF THE DUMP (.gsa) THAT YthpiobkghfdkkaaGreatProg.lean LOADS. Nothing in Lean hashes anything: it is a label: what it is worth is what the hold of that sum in a sandbox is worth. -/
noncomputable def Tryz.pinned : Pinned := { name := "ythpiobkghfdkkaagreat", sum := "baf1464a0d73e024ebeec826ba330f2ccd9d574177da2e013c60665d614c9b42", checked := Tryz.checked }
namespace Rows
def none {H : Type} : Left H := { results := [], args := [] }

/-- 'confluencelaw16.BatchNumbers': WHATEVER THE INPUT: true; the input reads as it did. -/
def batchNumbersSpec : ChangeSpec := { name := "batchNumbers", fn := fun _ => fun
  | [] => { results := [.lit (.bool true)], args := [] }
  | _ => none }
def batchNumbersRow : OpenClaim := { program := "ythpiobkghfdkkaagreat", sum := "baf1464a0d73e024ebeec826ba330f2ccd9d574177da2e013c60665d614c9b42", func := "confluence/confluencelaw16.BatchNumbers", spec := "batchNumbers", inPlace := ["math.archTrunc", "math.Float64bits", "math.Float64frombits", "internal/bytealg.abigen_runtime_cmpstring", "slices.overlaps[confluence/flow.Delta]"], unfollowed := true, recurses := true, apart := false }
def BatchNumbersSaid : Prop := batchNumbersRow.holds Tryz.pinned (OpenSpec.ofChange batchNumbersSpec)

/-- ITS FALSE NEIGHBOUR: 'it returns false'. Refute it at one input. -/
def batchNumbersWrong : ChangeSpec := { name := "batchNumbers", fn := fun _ => fun
  | [] => { results := [.lit (.bool false)], args := [] }
  | _ => none }
def BatchNumbersWrongFalsely : Prop := batchNumbersRow.holds Tryz.pinned (OpenSpec.ofChange batchNumbersWrong)

/-- 'confluencelaw16.BatchTells': WHATEVER THE INPUT: true; the input reads as it did. -/
def batchTellsSpec : ChangeSpec := { name := "batchTells", fn := fun _ => fun
  | [d1, d2, d3, d4] => { results := [.lit (.bool true)], args := [d1, d2, d3, d4] }
  | _ => none }
def batchTellsRow : OpenClaim := { program := "ythpiobkghfdkkaagreat", sum := "baf1464a0d73e024ebeec826ba330f2ccd9d574177da2e013c60665d614c9b42", func := "confluence/confluencelaw16.BatchTells", spec := "batchTells", inPlace := ["math.archTrunc", "math.Float64bits", "math.Float64frombits", "internal/bytealg.abigen_runtime_cmpstring", "slices.overlaps[confluence/flow.Delta]"], unfollowed := true, recurses := true, apart := false }
def BatchTellsSaid : Prop := batchTellsRow.holds Tryz.pinned (OpenSpec.ofChange batchTellsSpec)

/-- ITS FALSE NEIGHBOUR: 'it returns false'. Refute it at one input. -/
def batchTellsWrong : ChangeSpec := { name := "batchTells", fn := fun _ => fun
  | [d1, d2, d3, d4] => { results := [.lit (.bool false)], args := [d1, d2, d3, d4] }
  | _ => none }
def BatchTellsWrongFalsely : Prop := batchTellsRow.holds Tryz.pinned (OpenSpec.ofChange batchTellsWrong)

/-- 'confluencelaw16.BatchSums': WHATEVER THE INPUT: true; the input reads as it did. -/
def batchSumsSpec : ChangeSpec := { name := "batchSums", fn := fun _ => fun
  | [d1, d2] => { results := [.lit (.bool true)], args := [d1, d2] }
  | _ => none }
def batchSumsRow : OpenClaim := { program := "ythpiobkghfdkkaagreat", sum := "baf1464a0d73e024ebeec826ba330f2ccd9d574177da2e013c60665d614c9b42", func := "confluence/confluencelaw16.BatchSums", spec := "batchSums", inPlace := ["math.archTrunc", "math.Float64bits", "math.Float64frombits", "internal/bytealg.abigen_runtime_cmpstring", "slices.overlaps[confluence/flow.Delta]"], unfollowed := true, recurses := true, apart := false }
def BatchSumsSaid : Prop := batchSumsRow.holds Tryz.pinned (OpenSpec.ofChange batchSumsSpec)

/-- ITS FALSE NEIGHBOUR: 'it returns false'. Refute it at one input. -/
def batchSumsWrong : ChangeSpec := { name := "batchSums", fn := fun _ => fun
  | [d1, d2] => { results := [.lit (.bool false)], args := [d1, d2] }
  | _ => none }
def BatchSumsWrongFalsely : Prop := batchSumsRow.holds Tryz.pinned (OpenSpec.ofChange batchSumsWrong)

/-- 'confluencelaw16.BatchBack': WHATEVER THE INPUT: true; the input reads as it did. -/
def batchBackSpec : ChangeSpec := { name := "batchBack", fn := fun _ => fun
  | [d1, d2] => { results := [.lit (.bool true)], args := [d1, d2] }
  | _ => none }
def batchBackRow : OpenClaim := { program := "ythpiobkghfdkkaagreat", sum := "baf1464a0d73e024ebeec826ba330f2ccd9d574177da2e013c60665d614c9b42", func := "confluence/confluencelaw16.BatchBack", spec := "batchBack", inPlace := ["math.archTrunc", "math.Float64bits", "math.Float64frombits", "internal/bytealg.abigen_runtime_cmpstring", "slices.overlaps[confluence/flow.Delta]"], unfollowed := true, recurses := true, apart := false }
def BatchBackSaid : Prop := batchBackRow.holds Tryz.pinned (OpenSpec.ofChange batchBackSpec)

/-- ITS FALSE NEIGHBOUR: 'it returns false'. Refute it at one input. -/
def batchBackWrong : ChangeSpec := { name := "batchBack", fn := fun _ => fun
  | [d1, d2] => { results := [.lit (.bool false)], args := [d1, d2] }
  | _ => none }
def BatchBackWrongFalsely : Prop := batchBackRow.holds Tryz.pinned (OpenSpec.ofChange batchBackWrong)

/-- 'confluencelaw16.BatchKept': WHATEVER THE INPUT: true; the input reads as it did. -/
def batchKeptSpec : ChangeSpec := { name := "batchKept", fn := fun _ => fun
  | [d1, d2] => { results := [.lit (.bool true)], args := [d1, d2] }
  | _ => none }
def batchKeptRow : OpenClaim := { program := "ythpiobkghfdkkaagreat", sum := "baf1464a0d73e024ebeec826ba330f2ccd9d574177da2e013c60665d614c9b42", func := "confluence/confluencelaw16.BatchKept", spec := "batchKept", inPlace := ["math.archTrunc", "math.Float64bits", "math.Float64frombits", "internal/bytealg.abigen_runtime_cmpstring", "slices.overlaps[confluence/flow.Delta]"], unfollowed := true, recurses := true, apart := false }
def BatchKeptSaid : Prop := batchKeptRow.holds Tryz.pinned (OpenSpec.ofChange batchKeptSpec)

/-- ITS FALSE NEIGHBOUR: 'it returns false'. Refute it at one input. -/
def batchKeptWrong : ChangeSpec := { name := "batchKept", fn := fun _ => fun
  | [d1, d2] => { results := [.lit (.bool false)], args := [d1, d2] }
  | _ => none }
def BatchKeptWrongFalsely : Prop := batchKeptRow.holds Tryz.pinned (OpenSpec.ofChange batchKeptWrong)

/-- 'confluencelaw16.BatchOrder': WHATEVER THE INPUT: true; the input reads as it did. -/
def batchOrderSpec : ChangeSpec := { name := "batchOrder", fn := fun _ => fun
  | [d1, d2, d3] => { results := [.lit (.bool true)], args := [d1, d2, d3] }
  | _ => none }
def batchOrderRow : OpenClaim := { program := "ythpiobkghfdkkaagreat", sum := "baf1464a0d73e024ebeec826ba330f2ccd9d574177da2e013c60665d614c9b42", func := "confluence/confluencelaw16.BatchOrder", spec := "batchOrder", inPlace := ["math.archTrunc", "math.Float64bits", "math.Float64frombits", "internal/bytealg.abigen_runtime_cmpstring", "slices.overlaps[confluence/flow.Delta]"], unfollowed := true, recurses := true, apart := false }
def BatchOrderSaid : Prop := batchOrderRow.holds Tryz.pinned (OpenSpec.ofChange batchOrderSpec)

/-- ITS FALSE NEIGHBOUR: 'it returns false'. Refute it at one input. -/
def batchOrderWrong : ChangeSpec := { name := "batchOrder", fn := fun _ => fun
  | [d1, d2, d3] => { results := [.lit (.bool false)], args := [d1, d2, d3] }
  | _ => none }
def BatchOrderWrongFalsely : Prop := batchOrderRow.holds Tryz.pinned (OpenSpec.ofChange batchOrderWrong)

/- THE SECOND FORM. 'bulk': how many values and letters a reading holds, each counted each time it is reached (what is shared counts as often as it is met; a slice's spare places count too). A statement '..UptoSaid' is the law's where the arguments, and the package variables that the reading takes, are together of bulk at most 1048576: NARROWER than '..Said'. Prove '..Said' where nothing that the law and all that it calls make is longer than what came in: it says more and counts as full. Else prove '..UptoSaid'. A law counts once. -/
mutual
def uptoBulk {H : Type} : DataW H → Nat
  | .lit (.string bytes) => bytes.length + 1
  | .lit _ => 1
  | .nil => 1
  | .ptr d => uptoBulk d + 1
  | .slice elems spare => uptoBulkAll elems + uptoBulkAll spare + 1
  | .agg parts => uptoBulkAll parts + 1
  | .iface _ d => uptoBulk d + 1
  | .map entries => uptoBulkEntries entries + 1
  | .held _ => 1
def uptoBulkAll {H : Type} : List (DataW H) → Nat
  | [] => 0
  | d :: r => uptoBulk d + uptoBulkAll r
def uptoBulkEntries {H : Type} : List (Lit × DataW H) → Nat
  | [] => 0
  | x :: r => uptoBulkEntry x + uptoBulkEntries r
def uptoBulkEntry {H : Type} : Lit × DataW H → Nat
  | (.string bytes, d) => bytes.length + uptoBulk d + 1
  | (_, d) => uptoBulk d + 1
 end
def uptoSmall : (H : Type) → List (DataW H) → Bool := fun _ ds => decide (uptoBulkAll ds ≤ 1048576)
def OpenSpec.upto (s : _root_.Go.ChangeSpec) : _root_.Go.OpenSpec := { _root_.Go.OpenSpec.ofChange s with cond := some uptoSmall }

/-- 'confluencelaw16.BatchNumbers', WHERE WHAT IT READS IS OF BULK AT MOST 1048576: true; the input reads as it did. -/
def batchNumbersUptoRow : OpenClaim := { program := "ythpiobkghfdkkaagreat", sum := "baf1464a0d73e024ebeec826ba330f2ccd9d574177da2e013c60665d614c9b42", func := "confluence/confluencelaw16.BatchNumbers", spec := "batchNumbers", inPlace := ["math.archTrunc", "math.Float64bits", "math.Float64frombits", "internal/bytealg.abigen_runtime_cmpstring", "slices.overlaps[confluence/flow.Delta]"], unfollowed := true, recurses := true, apart := false, narrowed := true }
def BatchNumbersUptoSaid : Prop := batchNumbersUptoRow.holds Tryz.pinned (OpenSpec.upto batchNumbersSpec)

/-- 'confluencelaw16.BatchTells', WHERE WHAT IT READS IS OF BULK AT MOST 1048576: true; the input reads as it did. -/
def batchTellsUptoRow : OpenClaim := { program := "ythpiobkghfdkkaagreat", sum := "baf1464a0d73e024ebeec826ba330f2ccd9d574177da2e013c60665d614c9b42", func := "confluence/confluencelaw16.BatchTells", spec := "batchTells", inPlace := ["math.archTrunc", "math.Float64bits", "math.Float64frombits", "internal/bytealg.abigen_runtime_cmpstring", "slices.overlaps[confluence/flow.Delta]"], unfollowed := true, recurses := true, apart := false, narrowed := true }
def BatchTellsUptoSaid : Prop := batchTellsUptoRow.holds Tryz.pinned (OpenSpec.upto batchTellsSpec)

/-- 'confluencelaw16.BatchSums', WHERE WHAT IT READS IS OF BULK AT MOST 1048576: true; the input reads as it did. -/
def batchSumsUptoRow : OpenClaim := { program := "ythpiobkghfdkkaagreat", sum := "baf1464a0d73e024ebeec826ba330f2ccd9d574177da2e013c60665d614c9b42", func := "confluence/confluencelaw16.BatchSums", spec := "batchSums", inPlace := ["math.archTrunc", "math.Float64bits", "math.Float64frombits", "internal/bytealg.abigen_runtime_cmpstring", "slices.overlaps[confluence/flow.Delta]"], unfollowed := true, recurses := true, apart := false, narrowed := true }
def BatchSumsUptoSaid : Prop := batchSumsUptoRow.holds Tryz.pinned (OpenSpec.upto batchSumsSpec)

/-- 'confluencelaw16.BatchBack', WHERE WHAT IT READS IS OF BULK AT MOST 1048576: true; the input reads as it did. -/
def batchBackUptoRow : OpenClaim := { program := "ythpiobkghfdkkaagreat", sum := "baf1464a0d73e024ebeec826ba330f2ccd9d574177da2e013c60665d614c9b42", func := "confluence/confluencelaw16.BatchBack", spec := "batchBack", inPlace := ["math.archTrunc", "math.Float64bits", "math.Float64frombits", "internal/bytealg.abigen_runtime_cmpstring", "slices.overlaps[confluence/flow.Delta]"], unfollowed := true, recurses := true, apart := false, narrowed := true }
def BatchBackUptoSaid : Prop := batchBackUptoRow.holds Tryz.pinned (OpenSpec.upto batchBackSpec)

/-- 'confluencelaw16.BatchKept', WHERE WHAT IT READS IS OF BULK AT MOST 1048576: true; the input reads as it did. -/
def batchKeptUptoRow : OpenClaim := { program := "ythpiobkghfdkkaagreat", sum := "baf1464a0d73e024ebeec826ba330f2ccd9d574177da2e013c60665d614c9b42", func := "confluence/confluencelaw16.BatchKept", spec := "batchKept", inPlace := ["math.archTrunc", "math.Float64bits", "math.Float64frombits", "internal/bytealg.abigen_runtime_cmpstring", "slices.overlaps[confluence/flow.Delta]"], unfollowed := true, recurses := true, apart := false, narrowed := true }
def BatchKeptUptoSaid : Prop := batchKeptUptoRow.holds Tryz.pinned (OpenSpec.upto batchKeptSpec)

/-- 'confluencelaw16.BatchOrder', WHERE WHAT IT READS IS OF BULK AT MOST 1048576: true; the input reads as it did. -/
def batchOrderUptoRow : OpenClaim := { program := "ythpiobkghfdkkaagreat", sum := "baf1464a0d73e024ebeec826ba330f2ccd9d574177da2e013c60665d614c9b42", func := "confluence/confluencelaw16.BatchOrder", spec := "batchOrder", inPlace := ["math.archTrunc", "math.Float64bits", "math.Float64frombits", "internal/bytealg.abigen_runtime_cmpstring", "slices.overlaps[confluence/flow.Delta]"], unfollowed := true, recurses := true, apart := false, narrowed := true }
def BatchOrderUptoSaid : Prop := batchOrderUptoRow.holds Tryz.pinned (OpenSpec.upto batchOrderSpec)

end Rows
end Go.Proofs.YthpiobkghfdkkaaGreat
