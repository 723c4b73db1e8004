/-
  DERIVED. GIVEN WITH THE SEED: THE CARDS: each row of YtledfdpabmlecaaDoorRows.lean that lists a variable, with what it lists TIED to the program's text (the seventh form; the later family's looks); each row that meets fmt, with fmt's text TOLD by the authors' own Lean function (tested against real Go, not proved from fmt's source: count such statements apart). THE CARD IS WHAT COUNTS. Prove the row's statement (the work); the ties are given (YtledfdpabmlecaaDoorTie.lean); close each card by the builder's one call (the guide's Derived/Test/ToyasCard.lean, 'card_holds'). Laid BY PROGRAM, IN A SANDBOX (cutbox-door.mjs). By AI agents, Wed Nov 11 2026. No macro, syntax, notation, axiom, sorry.
-/
import Derived.Test.YtledfdpabmlecaaDoorRows
import GoSem.ClaimSeven
namespace Go.Proofs.YtledfdpabmlecaaDoor
namespace Rows

/-- THE TIED CARD OF 'flashcachelaw15.ScanRound'. -/
def scanRoundCard : Claim7 := { stood := { row := scanRoundRow, standIns := [], harness := (true, "329ce9a003efe2f1ad5045d66d60dc85d392c106f54a7ae8ef2bd1183fc9648b"), looks := false }, kinds := [], alts := [], laidByText := true, laidKinds := [.data], laidTests := true, laidLooks := .later }
def ScanRoundCardSaid : Prop := Claim7.holds Tryd.pinned (.plain (OpenSpec.ofChange scanRoundSpec)) scanRoundCard

/-- THE SECOND FORM's CARD OF 'flashcachelaw15.ScanRound'. -/
def scanRoundUptoCard : Claim7 := { stood := { row := scanRoundUptoRow, standIns := [], harness := (true, "329ce9a003efe2f1ad5045d66d60dc85d392c106f54a7ae8ef2bd1183fc9648b"), looks := false }, kinds := [], alts := [], laidByText := true, laidKinds := [.data], laidTests := true, laidLooks := .later }
def ScanRoundUptoCardSaid : Prop := Claim7.holds Tryd.pinned (.plain (OpenSpec.upto scanRoundSpec)) scanRoundUptoCard
end Rows
end Go.Proofs.YtledfdpabmlecaaDoor
