import Derived.Test.YtbgmhhfjkkfhpaaGreatDoorAliasG
import Derived.Test.YtbgmhhfjkkfhpaaGreatDoorChecked
import Derived.WalkKit
import Derived.Lib.Hide
set_option linter.unusedVariables false
set_option maxRecDepth 100000
set_option maxHeartbeats 64000000
namespace Go.Proofs.YtbgmhhfjkkfhpaaGreatDoor
open Go.RowKit
theorem Xn{k:IntKind}{a b:Int}(h:a=b):Ending.returned (.int k a)=.returned (.int k b):=by rw[h]
def within(n lo hi:Int):Int:=lo+(n % (hi-lo+1))
end Go.Proofs.YtbgmhhfjkkfhpaaGreatDoor
