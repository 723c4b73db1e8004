/-
  DERIVED. GIVEN WITH THE SEED: THE CARDS: each row of YtpidbakjpfngnaaDoorRows.lean that lists a variable, with what it lists TIED to the program's text (the seventh form; the later family's looks); each row that meets fmt, with fmt's text TOLD by the authors' own Lean function (tested against real Go, not proved from fmt's source: count such statements apart). THE CARD IS WHAT COUNTS. Prove the row's statement (the work); the ties are given (YtpidbakjpfngnaaDoorTie.lean); close each card by the builder's one call (the guide's Derived/Test/ToyasCard.lean, 'card_holds'). Laid BY PROGRAM, IN A SANDBOX (cutbox-door.mjs). By AI agents, Wed Nov 11 2026. No macro, syntax, notation, axiom, sorry.
-/
import Derived.Test.YtpidbakjpfngnaaDoorRows
import GoSem.ClaimSeven
namespace Go.Proofs.YtpidbakjpfngnaaDoor
namespace Rows

/-- THE TIED CARD OF 'flashcachelaw11.LogSector'. -/
def logSectorCard : Claim7 := { stood := { row := logSectorRow, standIns := [], harness := (true, "20eefe689101970d7d82447e8b47524d4b0999c4c1bff04a75910565a9c890d5"), looks := false }, kinds := [], alts := [], laidByText := true, laidKinds := [.data, .data, .data], laidTests := true, laidLooks := .later }
def LogSectorCardSaid : Prop := Claim7.holds Tryd.pinned (.plain (OpenSpec.ofChange logSectorSpec)) logSectorCard

/-- THE TIED CARD OF 'flashcachelaw11.LogScript'. -/
def logScriptCard : Claim7 := { stood := { row := logScriptRow, standIns := [], harness := (true, "20eefe689101970d7d82447e8b47524d4b0999c4c1bff04a75910565a9c890d5"), looks := false }, kinds := [], alts := [], laidByText := true, laidKinds := [.data, .data, .data], laidTests := true, laidLooks := .later }
def LogScriptCardSaid : Prop := Claim7.holds Tryd.pinned (.plain (OpenSpec.ofChange logScriptSpec)) logScriptCard

/-- THE TIED CARD OF 'flashcachelaw11.LogCrash'. -/
def logCrashCard : Claim7 := { stood := { row := logCrashRow, standIns := [], harness := (true, "20eefe689101970d7d82447e8b47524d4b0999c4c1bff04a75910565a9c890d5"), looks := false }, kinds := [], alts := [], laidByText := true, laidKinds := [.data, .data, .data], laidTests := true, laidLooks := .later }
def LogCrashCardSaid : Prop := Claim7.holds Tryd.pinned (.plain (OpenSpec.ofChange logCrashSpec)) logCrashCard

/-- THE TIED CARD OF 'flashcachelaw11.LogApart'. -/
def logApartCard : Claim7 := { stood := { row := logApartRow, standIns := [], harness := (true, "20eefe689101970d7d82447e8b47524d4b0999c4c1bff04a75910565a9c890d5"), looks := false }, kinds := [], alts := [], laidByText := true, laidKinds := [.data, .data, .data], laidTests := true, laidLooks := .later }
def LogApartCardSaid : Prop := Claim7.holds Tryd.pinned (.plain (OpenSpec.ofChange logApartSpec)) logApartCard

/-- THE TIED CARD OF 'flashcachelaw11.LogFull'. -/
def logFullCard : Claim7 := { stood := { row := logFullRow, standIns := [], harness := (true, "20eefe689101970d7d82447e8b47524d4b0999c4c1bff04a75910565a9c890d5"), looks := false }, kinds := [], alts := [], laidByText := true, laidKinds := [.data, .data, .data], laidTests := true, laidLooks := .later }
def LogFullCardSaid : Prop := Claim7.holds Tryd.pinned (.plain (OpenSpec.ofChange logFullSpec)) logFullCard

/-- THE SECOND FORM's CARD OF 'flashcachelaw11.LogSector'. -/
def logSectorUptoCard : Claim7 := { stood := { row := logSectorUptoRow, standIns := [], harness := (true, "20eefe689101970d7d82447e8b47524d4b0999c4c1bff04a75910565a9c890d5"), looks := false }, kinds := [], alts := [], laidByText := true, laidKinds := [.data, .data, .data], laidTests := true, laidLooks := .later }
def LogSectorUptoCardSaid : Prop := Claim7.holds Tryd.pinned (.plain (OpenSpec.upto logSectorSpec)) logSectorUptoCard

/-- THE SECOND FORM's CARD OF 'flashcachelaw11.LogScript'. -/
def logScriptUptoCard : Claim7 := { stood := { row := logScriptUptoRow, standIns := [], harness := (true, "20eefe689101970d7d82447e8b47524d4b0999c4c1bff04a75910565a9c890d5"), looks := false }, kinds := [], alts := [], laidByText := true, laidKinds := [.data, .data, .data], laidTests := true, laidLooks := .later }
def LogScriptUptoCardSaid : Prop := Claim7.holds Tryd.pinned (.plain (OpenSpec.upto logScriptSpec)) logScriptUptoCard

/-- THE SECOND FORM's CARD OF 'flashcachelaw11.LogCrash'. -/
def logCrashUptoCard : Claim7 := { stood := { row := logCrashUptoRow, standIns := [], harness := (true, "20eefe689101970d7d82447e8b47524d4b0999c4c1bff04a75910565a9c890d5"), looks := false }, kinds := [], alts := [], laidByText := true, laidKinds := [.data, .data, .data], laidTests := true, laidLooks := .later }
def LogCrashUptoCardSaid : Prop := Claim7.holds Tryd.pinned (.plain (OpenSpec.upto logCrashSpec)) logCrashUptoCard

/-- THE SECOND FORM's CARD OF 'flashcachelaw11.LogApart'. -/
def logApartUptoCard : Claim7 := { stood := { row := logApartUptoRow, standIns := [], harness := (true, "20eefe689101970d7d82447e8b47524d4b0999c4c1bff04a75910565a9c890d5"), looks := false }, kinds := [], alts := [], laidByText := true, laidKinds := [.data, .data, .data], laidTests := true, laidLooks := .later }
def LogApartUptoCardSaid : Prop := Claim7.holds Tryd.pinned (.plain (OpenSpec.upto logApartSpec)) logApartUptoCard

/-- THE SECOND FORM's CARD OF 'flashcachelaw11.LogFull'. -/
def logFullUptoCard : Claim7 := { stood := { row := logFullUptoRow, standIns := [], harness := (true, "20eefe689101970d7d82447e8b47524d4b0999c4c1bff04a75910565a9c890d5"), looks := false }, kinds := [], alts := [], laidByText := true, laidKinds := [.data, .data, .data], laidTests := true, laidLooks := .later }
def LogFullUptoCardSaid : Prop := Claim7.holds Tryd.pinned (.plain (OpenSpec.upto logFullSpec)) logFullUptoCard
end Rows
end Go.Proofs.YtpidbakjpfngnaaDoor
