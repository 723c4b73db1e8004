/-
  DERIVED. GIVEN WITH THE SEED: THE CARDS: each row of YtledfdpabmlecaaGreatDoorRows.lean that lists a variable, with what it lists TIED to the program's text (the seventh form; the later family's looks); each row that meets fmt, with fmt's text TOLD by the authors' own Lean function (tested against real Go, not proved from fmt's source: count such statements apart). THE CARD IS WHAT COUNTS. Prove the row's statement (the work); the ties are given (YtledfdpabmlecaaGreatDoorTie.lean); close each card by the builder's one call (the guide's Derived/Test/ToyasCard.lean, 'card_holds'). Laid BY PROGRAM, IN A SANDBOX (cutbox-door.mjs). By AI agents, Wed Nov 11 2026. No macro, syntax, notation, axiom, sorry.
-/
import Derived.Test.YtledfdpabmlecaaGreatDoorRows
import GoSem.ClaimSeven
namespace Go.Proofs.YtledfdpabmlecaaGreatDoor
namespace Rows

/-- THE TIED CARD OF 'flashcachelaw15.ScanRegion'. -/
def scanRegionCard : Claim7 := { stood := { row := scanRegionRow, standIns := [], harness := (true, "3777853ad7872671581621b8d42e186bde6a3d7e9d3fb3e4f2d54a1b32334c1a"), looks := false }, kinds := [], alts := [], laidByText := true, laidKinds := [.data], laidTests := true, laidLooks := .later }
def ScanRegionCardSaid : Prop := Claim7.holds Tryz.pinned (.plain (OpenSpec.ofChange scanRegionSpec)) scanRegionCard

/-- THE TIED CARD OF 'flashcachelaw15.ScanPrefix'. -/
def scanPrefixCard : Claim7 := { stood := { row := scanPrefixRow, standIns := [], harness := (true, "3777853ad7872671581621b8d42e186bde6a3d7e9d3fb3e4f2d54a1b32334c1a"), looks := false }, kinds := [], alts := [], laidByText := true, laidKinds := [.data], laidTests := true, laidLooks := .later }
def ScanPrefixCardSaid : Prop := Claim7.holds Tryz.pinned (.plain (OpenSpec.ofChange scanPrefixSpec)) scanPrefixCard

/-- THE TIED CARD OF 'flashcachelaw15.ScanOther'. -/
def scanOtherCard : Claim7 := { stood := { row := scanOtherRow, standIns := [], harness := (true, "3777853ad7872671581621b8d42e186bde6a3d7e9d3fb3e4f2d54a1b32334c1a"), looks := false }, kinds := [], alts := [], laidByText := true, laidKinds := [.data], laidTests := true, laidLooks := .later }
def ScanOtherCardSaid : Prop := Claim7.holds Tryz.pinned (.plain (OpenSpec.ofChange scanOtherSpec)) scanOtherCard

/-- THE SECOND FORM's CARD OF 'flashcachelaw15.ScanRegion'. -/
def scanRegionUptoCard : Claim7 := { stood := { row := scanRegionUptoRow, standIns := [], harness := (true, "3777853ad7872671581621b8d42e186bde6a3d7e9d3fb3e4f2d54a1b32334c1a"), looks := false }, kinds := [], alts := [], laidByText := true, laidKinds := [.data], laidTests := true, laidLooks := .later }
def ScanRegionUptoCardSaid : Prop := Claim7.holds Tryz.pinned (.plain (OpenSpec.upto scanRegionSpec)) scanRegionUptoCard

/-- THE SECOND FORM's CARD OF 'flashcachelaw15.ScanPrefix'. -/
def scanPrefixUptoCard : Claim7 := { stood := { row := scanPrefixUptoRow, standIns := [], harness := (true, "3777853ad7872671581621b8d42e186bde6a3d7e9d3fb3e4f2d54a1b32334c1a"), looks := false }, kinds := [], alts := [], laidByText := true, laidKinds := [.data], laidTests := true, laidLooks := .later }
def ScanPrefixUptoCardSaid : Prop := Claim7.holds Tryz.pinned (.plain (OpenSpec.upto scanPrefixSpec)) scanPrefixUptoCard

/-- THE SECOND FORM's CARD OF 'flashcachelaw15.ScanOther'. -/
def scanOtherUptoCard : Claim7 := { stood := { row := scanOtherUptoRow, standIns := [], harness := (true, "3777853ad7872671581621b8d42e186bde6a3d7e9d3fb3e4f2d54a1b32334c1a"), looks := false }, kinds := [], alts := [], laidByText := true, laidKinds := [.data], laidTests := true, laidLooks := .later }
def ScanOtherUptoCardSaid : Prop := Claim7.holds Tryz.pinned (.plain (OpenSpec.upto scanOtherSpec)) scanOtherUptoCard
end Rows
end Go.Proofs.YtledfdpabmlecaaGreatDoor
