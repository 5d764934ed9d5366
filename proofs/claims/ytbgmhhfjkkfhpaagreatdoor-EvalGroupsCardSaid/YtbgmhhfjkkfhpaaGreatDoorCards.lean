/-
  DERIVED. GIVEN WITH THE SEED: THE CARDS: each row of YtbgmhhfjkkfhpaaGreatDoorRows.lean that lists a variable, with what it lists TIED to the program's text (the seventh form; the later family's looks); each row that meets fmt, with fmt's text TOLD by the authors' own Lean function (tested against real Go, not proved from fmt's source: count such statements apart). THE CARD IS WHAT COUNTS. Prove the row's statement (the work); the ties are given (YtbgmhhfjkkfhpaaGreatDoorTie.lean); close each card by the builder's one call (the guide's Derived/Test/ToyasCard.lean, 'card_holds'). Laid BY PROGRAM, IN A SANDBOX (cutbox-door.mjs). By AI agents, Wed Nov 11 2026. No macro, syntax, notation, axiom, sorry.
-/
import Derived.Test.YtbgmhhfjkkfhpaaGreatDoorRows
import GoSem.ClaimSeven
namespace Go.Proofs.YtbgmhhfjkkfhpaaGreatDoor
namespace Rows

/-- THE TIED CARD OF 'confluencelaw11.EvalJoins'. -/
def evalJoinsCard : Claim7 := { stood := { row := evalJoinsRow, standIns := [], harness := (true, "698e3c89c08062cc6b4c8ffe416edd87eaff044eb91e61261f4c7455bb93a27f"), looks := false }, kinds := [], alts := [], laidByText := true, laidKinds := [.data, .data, .data], laidTests := true, laidLooks := .later }
def EvalJoinsCardSaid : Prop := Claim7.holds Tryz.pinned (.plain (OpenSpec.ofChange evalJoinsSpec)) evalJoinsCard

/-- THE TIED CARD OF 'confluencelaw11.EvalUnions'. -/
def evalUnionsCard : Claim7 := { stood := { row := evalUnionsRow, standIns := [], harness := (true, "698e3c89c08062cc6b4c8ffe416edd87eaff044eb91e61261f4c7455bb93a27f"), looks := false }, kinds := [], alts := [], laidByText := true, laidKinds := [.data, .data, .data], laidTests := true, laidLooks := .later }
def EvalUnionsCardSaid : Prop := Claim7.holds Tryz.pinned (.plain (OpenSpec.ofChange evalUnionsSpec)) evalUnionsCard

/-- THE TIED CARD OF 'confluencelaw11.EvalGroups'. -/
def evalGroupsCard : Claim7 := { stood := { row := evalGroupsRow, standIns := [], harness := (true, "698e3c89c08062cc6b4c8ffe416edd87eaff044eb91e61261f4c7455bb93a27f"), looks := false }, kinds := [], alts := [], laidByText := true, laidKinds := [.data, .data, .data], laidTests := true, laidLooks := .later }
def EvalGroupsCardSaid : Prop := Claim7.holds Tryz.pinned (.plain (OpenSpec.ofChange evalGroupsSpec)) evalGroupsCard

/-- THE SECOND FORM's CARD OF 'confluencelaw11.EvalJoins'. -/
def evalJoinsUptoCard : Claim7 := { stood := { row := evalJoinsUptoRow, standIns := [], harness := (true, "698e3c89c08062cc6b4c8ffe416edd87eaff044eb91e61261f4c7455bb93a27f"), looks := false }, kinds := [], alts := [], laidByText := true, laidKinds := [.data, .data, .data], laidTests := true, laidLooks := .later }
def EvalJoinsUptoCardSaid : Prop := Claim7.holds Tryz.pinned (.plain (OpenSpec.upto evalJoinsSpec)) evalJoinsUptoCard

/-- THE SECOND FORM's CARD OF 'confluencelaw11.EvalUnions'. -/
def evalUnionsUptoCard : Claim7 := { stood := { row := evalUnionsUptoRow, standIns := [], harness := (true, "698e3c89c08062cc6b4c8ffe416edd87eaff044eb91e61261f4c7455bb93a27f"), looks := false }, kinds := [], alts := [], laidByText := true, laidKinds := [.data, .data, .data], laidTests := true, laidLooks := .later }
def EvalUnionsUptoCardSaid : Prop := Claim7.holds Tryz.pinned (.plain (OpenSpec.upto evalUnionsSpec)) evalUnionsUptoCard

/-- THE SECOND FORM's CARD OF 'confluencelaw11.EvalGroups'. -/
def evalGroupsUptoCard : Claim7 := { stood := { row := evalGroupsUptoRow, standIns := [], harness := (true, "698e3c89c08062cc6b4c8ffe416edd87eaff044eb91e61261f4c7455bb93a27f"), looks := false }, kinds := [], alts := [], laidByText := true, laidKinds := [.data, .data, .data], laidTests := true, laidLooks := .later }
def EvalGroupsUptoCardSaid : Prop := Claim7.holds Tryz.pinned (.plain (OpenSpec.upto evalGroupsSpec)) evalGroupsUptoCard
end Rows
end Go.Proofs.YtbgmhhfjkkfhpaaGreatDoor
