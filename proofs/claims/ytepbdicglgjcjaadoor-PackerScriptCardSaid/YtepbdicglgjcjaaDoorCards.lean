/-
  DERIVED. GIVEN WITH THE SEED: THE CARDS: each row of YtepbdicglgjcjaaDoorRows.lean that lists a variable, with what it lists TIED to the program's text (the seventh form; the later family's looks); each row that meets fmt, with fmt's text TOLD by the authors' own Lean function (tested against real Go, not proved from fmt's source: count such statements apart). THE CARD IS WHAT COUNTS. Prove the row's statement (the work); the ties are given (YtepbdicglgjcjaaDoorTie.lean); close each card by the builder's one call (the guide's Derived/Test/ToyasCard.lean, 'card_holds'). Laid BY PROGRAM, IN A SANDBOX (cutbox-door.mjs). By AI agents, Wed Nov 11 2026. No macro, syntax, notation, axiom, sorry.
-/
import Derived.Test.YtepbdicglgjcjaaDoorRows
import GoSem.ClaimSeven
namespace Go.Proofs.YtepbdicglgjcjaaDoor
namespace Rows

/-- THE TIED CARD OF 'flashcachelaw13.PackerScript'. -/
def packerScriptCard : Claim7 := { stood := { row := packerScriptRow, standIns := [], harness := (true, "670f6ac215d5d55fcfc688ccca6089498d02e4d3a3e3824d8b46efdea5764da6"), looks := false }, kinds := [], alts := [], laidByText := true, laidKinds := [.data], laidTests := true, laidLooks := .later }
def PackerScriptCardSaid : Prop := Claim7.holds Tryd.pinned (.plain (OpenSpec.ofChange packerScriptSpec)) packerScriptCard

/-- THE TIED CARD OF 'flashcachelaw14.RegionScript'. -/
def regionScriptCard : Claim7 := { stood := { row := regionScriptRow, standIns := [], harness := (true, "670f6ac215d5d55fcfc688ccca6089498d02e4d3a3e3824d8b46efdea5764da6"), looks := false }, kinds := [], alts := [], laidByText := true, laidKinds := [.data], laidTests := true, laidLooks := .later }
def RegionScriptCardSaid : Prop := Claim7.holds Tryd.pinned (.plain (OpenSpec.ofChange regionScriptSpec)) regionScriptCard

/-- THE TIED CARD OF 'flashcachelaw14.RegionOnce'. -/
def regionOnceCard : Claim7 := { stood := { row := regionOnceRow, standIns := [], harness := (true, "670f6ac215d5d55fcfc688ccca6089498d02e4d3a3e3824d8b46efdea5764da6"), looks := false }, kinds := [], alts := [], laidByText := true, laidKinds := [.data], laidTests := true, laidLooks := .later }
def RegionOnceCardSaid : Prop := Claim7.holds Tryd.pinned (.plain (OpenSpec.ofChange regionOnceSpec)) regionOnceCard

/-- THE TIED CARD OF 'flashcachelaw14.RegionMay'. -/
def regionMayCard : Claim7 := { stood := { row := regionMayRow, standIns := [], harness := (true, "670f6ac215d5d55fcfc688ccca6089498d02e4d3a3e3824d8b46efdea5764da6"), looks := false }, kinds := [], alts := [], laidByText := true, laidKinds := [.data], laidTests := true, laidLooks := .later }
def RegionMayCardSaid : Prop := Claim7.holds Tryd.pinned (.plain (OpenSpec.ofChange regionMaySpec)) regionMayCard

/-- THE SECOND FORM's CARD OF 'flashcachelaw13.PackerScript'. -/
def packerScriptUptoCard : Claim7 := { stood := { row := packerScriptUptoRow, standIns := [], harness := (true, "670f6ac215d5d55fcfc688ccca6089498d02e4d3a3e3824d8b46efdea5764da6"), looks := false }, kinds := [], alts := [], laidByText := true, laidKinds := [.data], laidTests := true, laidLooks := .later }
def PackerScriptUptoCardSaid : Prop := Claim7.holds Tryd.pinned (.plain (OpenSpec.upto packerScriptSpec)) packerScriptUptoCard

/-- THE SECOND FORM's CARD OF 'flashcachelaw14.RegionScript'. -/
def regionScriptUptoCard : Claim7 := { stood := { row := regionScriptUptoRow, standIns := [], harness := (true, "670f6ac215d5d55fcfc688ccca6089498d02e4d3a3e3824d8b46efdea5764da6"), looks := false }, kinds := [], alts := [], laidByText := true, laidKinds := [.data], laidTests := true, laidLooks := .later }
def RegionScriptUptoCardSaid : Prop := Claim7.holds Tryd.pinned (.plain (OpenSpec.upto regionScriptSpec)) regionScriptUptoCard

/-- THE SECOND FORM's CARD OF 'flashcachelaw14.RegionOnce'. -/
def regionOnceUptoCard : Claim7 := { stood := { row := regionOnceUptoRow, standIns := [], harness := (true, "670f6ac215d5d55fcfc688ccca6089498d02e4d3a3e3824d8b46efdea5764da6"), looks := false }, kinds := [], alts := [], laidByText := true, laidKinds := [.data], laidTests := true, laidLooks := .later }
def RegionOnceUptoCardSaid : Prop := Claim7.holds Tryd.pinned (.plain (OpenSpec.upto regionOnceSpec)) regionOnceUptoCard

/-- THE SECOND FORM's CARD OF 'flashcachelaw14.RegionMay'. -/
def regionMayUptoCard : Claim7 := { stood := { row := regionMayUptoRow, standIns := [], harness := (true, "670f6ac215d5d55fcfc688ccca6089498d02e4d3a3e3824d8b46efdea5764da6"), looks := false }, kinds := [], alts := [], laidByText := true, laidKinds := [.data], laidTests := true, laidLooks := .later }
def RegionMayUptoCardSaid : Prop := Claim7.holds Tryd.pinned (.plain (OpenSpec.upto regionMaySpec)) regionMayUptoCard
end Rows
end Go.Proofs.YtepbdicglgjcjaaDoor
