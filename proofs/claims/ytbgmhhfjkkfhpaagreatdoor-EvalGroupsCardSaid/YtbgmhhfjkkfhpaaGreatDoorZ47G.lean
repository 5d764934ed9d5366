import Derived.Test.YtbgmhhfjkkfhpaaGreatDoorZ46G
set_option linter.unusedVariables false
set_option maxRecDepth 100000
set_option maxHeartbeats 64000000
namespace Go.Proofs.YtbgmhhfjkkfhpaaGreatDoor.evalGroups
open Go.ChangeShapes Go.WideShapes Go.ChangeAt Go.RowKit
open Go.Lib renaming hid → zq
open Go renaming World → ak
open Go renaming Value → au
open Go.Proofs.Tryz renaming prog → ax
open Go.Proofs.Tryz
variable {U:Prop}
theorem amY:Tryz.pinned.checked.prog.funcNamed Rows.evalGroupsRow.func=some 5:=ah
theorem ajd:joinedFacts Tryz.pinned.checked.prog 5 Tryz.f5 (OpenSpec.ofChange Rows.evalGroupsSpec).bare Rows.evalGroupsRow=true:=ah
end Go.Proofs.YtbgmhhfjkkfhpaaGreatDoor.evalGroups
