/-
  DERIVED. GIVEN WITH THE SEED: THE CARDS: each row of YtgnbmmceffolmaaGreatDoorRows.lean that lists a variable, with what it lists TIED to the program's text (the seventh form; the later family's looks); each row that meets fmt, with fmt's text TOLD by the authors' own Lean function (tested against real Go, not proved from fmt's source: count such statements apart). THE CARD IS WHAT COUNTS. Prove the row's statement (the work); the ties are given (YtgnbmmceffolmaaGreatDoorTie.lean); close each card by the builder's one call (the guide's Derived/Test/ToyasCard.lean, 'card_holds'). Laid BY PROGRAM, IN A SANDBOX (cutbox-door.mjs). By AI agents, Wed Nov 11 2026. No macro, syntax, notation, axiom, sorry.
-/
import Derived.Test.YtgnbmmceffolmaaGreatDoorRows
import GoSem.ClaimSeven
namespace Go.Proofs.YtgnbmmceffolmaaGreatDoor
namespace Rows

/-- THE TIED CARD OF 'flashcachelaw15.ScanRegion'. -/
def scanRegionCard : Claim7 := { stood := { row := scanRegionRow, standIns := [], harness := (true, "9489ddb29520243caa09c9be880d2d2c6509f781c9e0de4aea9ea5a616f0cfca"), looks := false }, kinds := [], alts := [], laidByText := true, laidKinds := [.data], laidTests := true, laidLooks := .later }
def ScanRegionCardSaid : Prop := Claim7.holds Tryz.pinned (.plain (OpenSpec.ofChange scanRegionSpec)) scanRegionCard

/-- THE SECOND FORM's CARD OF 'flashcachelaw15.ScanRegion'. -/
def scanRegionUptoCard : Claim7 := { stood := { row := scanRegionUptoRow, standIns := [], harness := (true, "9489ddb29520243caa09c9be880d2d2c6509f781c9e0de4aea9ea5a616f0cfca"), looks := false }, kinds := [], alts := [], laidByText := true, laidKinds := [.data], laidTests := true, laidLooks := .later }
def ScanRegionUptoCardSaid : Prop := Claim7.holds Tryz.pinned (.plain (OpenSpec.upto scanRegionSpec)) scanRegionUptoCard
end Rows
end Go.Proofs.YtgnbmmceffolmaaGreatDoor
