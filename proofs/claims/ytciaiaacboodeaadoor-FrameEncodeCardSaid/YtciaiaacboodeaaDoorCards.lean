/-
  DERIVED. GIVEN WITH THE SEED: THE CARDS: each row of YtciaiaacboodeaaDoorRows.lean that lists a variable, with what it lists TIED to the program's text (the seventh form; the later family's looks); each row that meets fmt, with fmt's text TOLD by the authors' own Lean function (tested against real Go, not proved from fmt's source: count such statements apart). THE CARD IS WHAT COUNTS. Prove the row's statement (the work); the ties are given (YtciaiaacboodeaaDoorTie.lean); close each card by the builder's one call (the guide's Derived/Test/ToyasCard.lean, 'card_holds'). Laid BY PROGRAM, IN A SANDBOX (cutbox-door.mjs). By AI agents, Wed Nov 11 2026. No macro, syntax, notation, axiom, sorry.
-/
import Derived.Test.YtciaiaacboodeaaDoorRows
import GoSem.ClaimSeven
namespace Go.Proofs.YtciaiaacboodeaaDoor
namespace Rows

/-- THE TIED CARD OF 'flashcachelaw05.RecordDecode'. -/
def recordDecodeCard : Claim7 := { stood := { row := recordDecodeRow, standIns := [], harness := (true, "6a37143656d73830fb73de342fdb4050aa112676cb9b892326a54ab6dc9aa9a4"), looks := false }, kinds := [], alts := [], laidByText := true, laidKinds := [.data], laidTests := true, laidLooks := .later }
def RecordDecodeCardSaid : Prop := Claim7.holds Tryd.pinned (.plain (OpenSpec.ofChange recordDecodeSpec)) recordDecodeCard

/-- THE TIED CARD OF 'flashcachelaw06.FrameEncode'. -/
def frameEncodeCard : Claim7 := { stood := { row := frameEncodeRow, standIns := [], harness := (true, "6a37143656d73830fb73de342fdb4050aa112676cb9b892326a54ab6dc9aa9a4"), looks := false }, kinds := [], alts := [], laidByText := true, laidKinds := [.data], laidTests := true, laidLooks := .later }
def FrameEncodeCardSaid : Prop := Claim7.holds Tryd.pinned (.plain (OpenSpec.ofChange frameEncodeSpec)) frameEncodeCard

/-- THE TIED CARD OF 'flashcachelaw06.FrameDecode'. -/
def frameDecodeCard : Claim7 := { stood := { row := frameDecodeRow, standIns := [], harness := (true, "6a37143656d73830fb73de342fdb4050aa112676cb9b892326a54ab6dc9aa9a4"), looks := false }, kinds := [], alts := [], laidByText := true, laidKinds := [.data], laidTests := true, laidLooks := .later }
def FrameDecodeCardSaid : Prop := Claim7.holds Tryd.pinned (.plain (OpenSpec.ofChange frameDecodeSpec)) frameDecodeCard

/-- THE TIED CARD OF 'flashcachelaw06.FrameOther'. -/
def frameOtherCard : Claim7 := { stood := { row := frameOtherRow, standIns := [], harness := (true, "6a37143656d73830fb73de342fdb4050aa112676cb9b892326a54ab6dc9aa9a4"), looks := false }, kinds := [], alts := [], laidByText := true, laidKinds := [.data], laidTests := true, laidLooks := .later }
def FrameOtherCardSaid : Prop := Claim7.holds Tryd.pinned (.plain (OpenSpec.ofChange frameOtherSpec)) frameOtherCard

/-- THE TIED CARD OF 'flashcachelaw06.FrameTorn'. -/
def frameTornCard : Claim7 := { stood := { row := frameTornRow, standIns := [], harness := (true, "6a37143656d73830fb73de342fdb4050aa112676cb9b892326a54ab6dc9aa9a4"), looks := false }, kinds := [], alts := [], laidByText := true, laidKinds := [.data], laidTests := true, laidLooks := .later }
def FrameTornCardSaid : Prop := Claim7.holds Tryd.pinned (.plain (OpenSpec.ofChange frameTornSpec)) frameTornCard

/-- THE SECOND FORM's CARD OF 'flashcachelaw05.RecordDecode'. -/
def recordDecodeUptoCard : Claim7 := { stood := { row := recordDecodeUptoRow, standIns := [], harness := (true, "6a37143656d73830fb73de342fdb4050aa112676cb9b892326a54ab6dc9aa9a4"), looks := false }, kinds := [], alts := [], laidByText := true, laidKinds := [.data], laidTests := true, laidLooks := .later }
def RecordDecodeUptoCardSaid : Prop := Claim7.holds Tryd.pinned (.plain (OpenSpec.upto recordDecodeSpec)) recordDecodeUptoCard

/-- THE SECOND FORM's CARD OF 'flashcachelaw06.FrameEncode'. -/
def frameEncodeUptoCard : Claim7 := { stood := { row := frameEncodeUptoRow, standIns := [], harness := (true, "6a37143656d73830fb73de342fdb4050aa112676cb9b892326a54ab6dc9aa9a4"), looks := false }, kinds := [], alts := [], laidByText := true, laidKinds := [.data], laidTests := true, laidLooks := .later }
def FrameEncodeUptoCardSaid : Prop := Claim7.holds Tryd.pinned (.plain (OpenSpec.upto frameEncodeSpec)) frameEncodeUptoCard

/-- THE SECOND FORM's CARD OF 'flashcachelaw06.FrameDecode'. -/
def frameDecodeUptoCard : Claim7 := { stood := { row := frameDecodeUptoRow, standIns := [], harness := (true, "6a37143656d73830fb73de342fdb4050aa112676cb9b892326a54ab6dc9aa9a4"), looks := false }, kinds := [], alts := [], laidByText := true, laidKinds := [.data], laidTests := true, laidLooks := .later }
def FrameDecodeUptoCardSaid : Prop := Claim7.holds Tryd.pinned (.plain (OpenSpec.upto frameDecodeSpec)) frameDecodeUptoCard

/-- THE SECOND FORM's CARD OF 'flashcachelaw06.FrameOther'. -/
def frameOtherUptoCard : Claim7 := { stood := { row := frameOtherUptoRow, standIns := [], harness := (true, "6a37143656d73830fb73de342fdb4050aa112676cb9b892326a54ab6dc9aa9a4"), looks := false }, kinds := [], alts := [], laidByText := true, laidKinds := [.data], laidTests := true, laidLooks := .later }
def FrameOtherUptoCardSaid : Prop := Claim7.holds Tryd.pinned (.plain (OpenSpec.upto frameOtherSpec)) frameOtherUptoCard

/-- THE SECOND FORM's CARD OF 'flashcachelaw06.FrameTorn'. -/
def frameTornUptoCard : Claim7 := { stood := { row := frameTornUptoRow, standIns := [], harness := (true, "6a37143656d73830fb73de342fdb4050aa112676cb9b892326a54ab6dc9aa9a4"), looks := false }, kinds := [], alts := [], laidByText := true, laidKinds := [.data], laidTests := true, laidLooks := .later }
def FrameTornUptoCardSaid : Prop := Claim7.holds Tryd.pinned (.plain (OpenSpec.upto frameTornSpec)) frameTornUptoCard
end Rows
end Go.Proofs.YtciaiaacboodeaaDoor
