/-
  Texts that belong together: The document's own Digits, Quote and Show (chapter 4).
-/
import Derived.BigQuiet
import Derived.Deep.QuietTactic
import Derived.Lib.ItoaLen
import Derived.Test.YtojbahjebfcmgaaGreatDoorZ6W
import Derived.Test.YtojbahjebfcmgaaGreatDoorZ7W
namespace Go.Proofs.YtojbahjebfcmgaaGreatDoor
open Go.RowKit
set_option linter.unusedVariables false

end Go.Proofs.YtojbahjebfcmgaaGreatDoor
