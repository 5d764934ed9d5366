/-
  DERIVED. GIVEN WITH THE SEED: THE CARDS: each row of YtiiogjpgeginlaaDoorRows.lean that lists a variable, with what it lists TIED to the program's text (the seventh form; the later family's looks); each row that meets fmt, with fmt's text TOLD by the authors' own Lean function (tested against real Go, not proved from fmt's source: count such statements apart). THE CARD IS WHAT COUNTS. Prove the row's statement (the work); the ties are given (YtiiogjpgeginlaaDoorTie.lean); close each card by the builder's one call (the guide's Derived/Test/ToyasCard.lean, 'card_holds'). Laid BY PROGRAM, IN A SANDBOX (cutbox-door.mjs). By AI agents, Wed Nov 11 2026. No macro, syntax, notation, axiom, sorry.
-/
import Derived.Test.YtiiogjpgeginlaaDoorRows
import GoSem.ClaimSeven
namespace Go.Proofs.YtiiogjpgeginlaaDoor
namespace Rows

/-- THE TIED CARD OF 'confluencelaw7.SexpNumbers'. -/
def sexpNumbersCard : Claim7 := { stood := { row := sexpNumbersRow, standIns := [], harness := (true, "ff75fc44e8a362bb6a34c1730e1da5e053636fb640afc4d886d176908ed7998e"), looks := false }, kinds := [], alts := [], laidByText := true, laidKinds := [.data, .data, .data], laidTests := true, laidLooks := .later }
def SexpNumbersCardSaid : Prop := Claim7.holds Tryd.pinned (.plain (OpenSpec.ofChange sexpNumbersSpec)) sexpNumbersCard

/-- THE TIED CARD OF 'confluencelaw8.ExprBack'. -/
def exprBackCard : Claim7 := { stood := { row := exprBackRow, standIns := [], harness := (true, "ff75fc44e8a362bb6a34c1730e1da5e053636fb640afc4d886d176908ed7998e"), looks := false }, kinds := [], alts := [], laidByText := true, laidKinds := [.data, .data, .data], laidTests := true, laidLooks := .later }
def ExprBackCardSaid : Prop := Claim7.holds Tryd.pinned (.plain (OpenSpec.ofChange exprBackSpec)) exprBackCard

/-- THE SECOND FORM's CARD OF 'confluencelaw7.SexpNumbers'. -/
def sexpNumbersUptoCard : Claim7 := { stood := { row := sexpNumbersUptoRow, standIns := [], harness := (true, "ff75fc44e8a362bb6a34c1730e1da5e053636fb640afc4d886d176908ed7998e"), looks := false }, kinds := [], alts := [], laidByText := true, laidKinds := [.data, .data, .data], laidTests := true, laidLooks := .later }
def SexpNumbersUptoCardSaid : Prop := Claim7.holds Tryd.pinned (.plain (OpenSpec.upto sexpNumbersSpec)) sexpNumbersUptoCard

/-- THE SECOND FORM's CARD OF 'confluencelaw8.ExprBack'. -/
def exprBackUptoCard : Claim7 := { stood := { row := exprBackUptoRow, standIns := [], harness := (true, "ff75fc44e8a362bb6a34c1730e1da5e053636fb640afc4d886d176908ed7998e"), looks := false }, kinds := [], alts := [], laidByText := true, laidKinds := [.data, .data, .data], laidTests := true, laidLooks := .later }
def ExprBackUptoCardSaid : Prop := Claim7.holds Tryd.pinned (.plain (OpenSpec.upto exprBackSpec)) exprBackUptoCard
end Rows
end Go.Proofs.YtiiogjpgeginlaaDoor
