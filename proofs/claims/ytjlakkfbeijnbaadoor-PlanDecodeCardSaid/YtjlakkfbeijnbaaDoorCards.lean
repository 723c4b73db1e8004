/-
  DERIVED. GIVEN WITH THE SEED: THE CARDS: each row of YtjlakkfbeijnbaaDoorRows.lean that lists a variable, with what it lists TIED to the program's text (the seventh form; the later family's looks); each row that meets fmt, with fmt's text TOLD by the authors' own Lean function (tested against real Go, not proved from fmt's source: count such statements apart). THE CARD IS WHAT COUNTS. Prove the row's statement (the work); the ties are given (YtjlakkfbeijnbaaDoorTie.lean); close each card by the builder's one call (the guide's Derived/Test/ToyasCard.lean, 'card_holds'). Laid BY PROGRAM, IN A SANDBOX (cutbox-door.mjs). By AI agents, Wed Nov 11 2026. No macro, syntax, notation, axiom, sorry.
-/
import Derived.Test.YtjlakkfbeijnbaaDoorRows
import GoSem.ClaimSeven
namespace Go.Proofs.YtjlakkfbeijnbaaDoor
namespace Rows

/-- THE TIED CARD OF 'flashcachelaw10.PlanEncode'. -/
def planEncodeCard : Claim7 := { stood := { row := planEncodeRow, standIns := [], harness := (true, "61142cb62ed6be9c66e1254ad8579a2dc7e736d475f383115e74b29105a98964"), looks := false }, kinds := [], alts := [], laidByText := true, laidKinds := [.data, .data, .data], laidTests := true, laidLooks := .later }
def PlanEncodeCardSaid : Prop := Claim7.holds Tryd.pinned (.plain (OpenSpec.ofChange planEncodeSpec)) planEncodeCard

/-- THE TIED CARD OF 'flashcachelaw10.PlanDecode'. -/
def planDecodeCard : Claim7 := { stood := { row := planDecodeRow, standIns := [], harness := (true, "61142cb62ed6be9c66e1254ad8579a2dc7e736d475f383115e74b29105a98964"), looks := false }, kinds := [], alts := [], laidByText := true, laidKinds := [.data], laidTests := true, laidLooks := .later }
def PlanDecodeCardSaid : Prop := Claim7.holds Tryd.pinned (.plain (OpenSpec.ofChange planDecodeSpec)) planDecodeCard

/-- THE SECOND FORM's CARD OF 'flashcachelaw10.PlanEncode'. -/
def planEncodeUptoCard : Claim7 := { stood := { row := planEncodeUptoRow, standIns := [], harness := (true, "61142cb62ed6be9c66e1254ad8579a2dc7e736d475f383115e74b29105a98964"), looks := false }, kinds := [], alts := [], laidByText := true, laidKinds := [.data, .data, .data], laidTests := true, laidLooks := .later }
def PlanEncodeUptoCardSaid : Prop := Claim7.holds Tryd.pinned (.plain (OpenSpec.upto planEncodeSpec)) planEncodeUptoCard

/-- THE SECOND FORM's CARD OF 'flashcachelaw10.PlanDecode'. -/
def planDecodeUptoCard : Claim7 := { stood := { row := planDecodeUptoRow, standIns := [], harness := (true, "61142cb62ed6be9c66e1254ad8579a2dc7e736d475f383115e74b29105a98964"), looks := false }, kinds := [], alts := [], laidByText := true, laidKinds := [.data], laidTests := true, laidLooks := .later }
def PlanDecodeUptoCardSaid : Prop := Claim7.holds Tryd.pinned (.plain (OpenSpec.upto planDecodeSpec)) planDecodeUptoCard
end Rows
end Go.Proofs.YtjlakkfbeijnbaaDoor
