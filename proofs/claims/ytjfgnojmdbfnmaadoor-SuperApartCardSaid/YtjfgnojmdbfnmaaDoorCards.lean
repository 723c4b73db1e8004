/-
  DERIVED. GIVEN WITH THE SEED: THE CARDS: each row of YtjfgnojmdbfnmaaDoorRows.lean that lists a variable, with what it lists TIED to the program's text (the seventh form; the later family's looks); each row that meets fmt, with fmt's text TOLD by the authors' own Lean function (tested against real Go, not proved from fmt's source: count such statements apart). THE CARD IS WHAT COUNTS. Prove the row's statement (the work); the ties are given (YtjfgnojmdbfnmaaDoorTie.lean); close each card by the builder's one call (the guide's Derived/Test/ToyasCard.lean, 'card_holds'). Laid BY PROGRAM, IN A SANDBOX (cutbox-door.mjs). By AI agents, Wed Nov 11 2026. No macro, syntax, notation, axiom, sorry.
-/
import Derived.Test.YtjfgnojmdbfnmaaDoorRows
import GoSem.ClaimSeven
namespace Go.Proofs.YtjfgnojmdbfnmaaDoor
namespace Rows

/-- THE TIED CARD OF 'flashcachelaw07.HeaderValid'. -/
def headerValidCard : Claim7 := { stood := { row := headerValidRow, standIns := [], harness := (true, "5165ff9e9504f283ec975c16672a877ad0c9f07b3de34872f5a8c08ac8165fa0"), looks := false }, kinds := [], alts := [], laidByText := true, laidKinds := [.data], laidTests := true, laidLooks := .later }
def HeaderValidCardSaid : Prop := Claim7.holds Tryd.pinned (.plain (OpenSpec.ofChange headerValidSpec)) headerValidCard

/-- THE TIED CARD OF 'flashcachelaw07.HeaderEncode'. -/
def headerEncodeCard : Claim7 := { stood := { row := headerEncodeRow, standIns := [], harness := (true, "5165ff9e9504f283ec975c16672a877ad0c9f07b3de34872f5a8c08ac8165fa0"), looks := false }, kinds := [], alts := [], laidByText := true, laidKinds := [.data], laidTests := true, laidLooks := .later }
def HeaderEncodeCardSaid : Prop := Claim7.holds Tryd.pinned (.plain (OpenSpec.ofChange headerEncodeSpec)) headerEncodeCard

/-- THE TIED CARD OF 'flashcachelaw07.HeaderDecode'. -/
def headerDecodeCard : Claim7 := { stood := { row := headerDecodeRow, standIns := [], harness := (true, "5165ff9e9504f283ec975c16672a877ad0c9f07b3de34872f5a8c08ac8165fa0"), looks := false }, kinds := [], alts := [], laidByText := true, laidKinds := [.data], laidTests := true, laidLooks := .later }
def HeaderDecodeCardSaid : Prop := Claim7.holds Tryd.pinned (.plain (OpenSpec.ofChange headerDecodeSpec)) headerDecodeCard

/-- THE TIED CARD OF 'flashcachelaw07.HeaderFrame'. -/
def headerFrameCard : Claim7 := { stood := { row := headerFrameRow, standIns := [], harness := (true, "5165ff9e9504f283ec975c16672a877ad0c9f07b3de34872f5a8c08ac8165fa0"), looks := false }, kinds := [], alts := [], laidByText := true, laidKinds := [.data], laidTests := true, laidLooks := .later }
def HeaderFrameCardSaid : Prop := Claim7.holds Tryd.pinned (.plain (OpenSpec.ofChange headerFrameSpec)) headerFrameCard

/-- THE TIED CARD OF 'flashcachelaw07.HeaderOther'. -/
def headerOtherCard : Claim7 := { stood := { row := headerOtherRow, standIns := [], harness := (true, "5165ff9e9504f283ec975c16672a877ad0c9f07b3de34872f5a8c08ac8165fa0"), looks := false }, kinds := [], alts := [], laidByText := true, laidKinds := [.data], laidTests := true, laidLooks := .later }
def HeaderOtherCardSaid : Prop := Claim7.holds Tryd.pinned (.plain (OpenSpec.ofChange headerOtherSpec)) headerOtherCard

/-- THE TIED CARD OF 'flashcachelaw08.SuperValid'. -/
def superValidCard : Claim7 := { stood := { row := superValidRow, standIns := [], harness := (true, "5165ff9e9504f283ec975c16672a877ad0c9f07b3de34872f5a8c08ac8165fa0"), looks := false }, kinds := [], alts := [], laidByText := true, laidKinds := [.data], laidTests := true, laidLooks := .later }
def SuperValidCardSaid : Prop := Claim7.holds Tryd.pinned (.plain (OpenSpec.ofChange superValidSpec)) superValidCard

/-- THE TIED CARD OF 'flashcachelaw08.SuperEncode'. -/
def superEncodeCard : Claim7 := { stood := { row := superEncodeRow, standIns := [], harness := (true, "5165ff9e9504f283ec975c16672a877ad0c9f07b3de34872f5a8c08ac8165fa0"), looks := false }, kinds := [], alts := [], laidByText := true, laidKinds := [.data], laidTests := true, laidLooks := .later }
def SuperEncodeCardSaid : Prop := Claim7.holds Tryd.pinned (.plain (OpenSpec.ofChange superEncodeSpec)) superEncodeCard

/-- THE TIED CARD OF 'flashcachelaw08.SuperDecode'. -/
def superDecodeCard : Claim7 := { stood := { row := superDecodeRow, standIns := [], harness := (true, "5165ff9e9504f283ec975c16672a877ad0c9f07b3de34872f5a8c08ac8165fa0"), looks := false }, kinds := [], alts := [], laidByText := true, laidKinds := [.data], laidTests := true, laidLooks := .later }
def SuperDecodeCardSaid : Prop := Claim7.holds Tryd.pinned (.plain (OpenSpec.ofChange superDecodeSpec)) superDecodeCard

/-- THE TIED CARD OF 'flashcachelaw08.SuperApart'. -/
def superApartCard : Claim7 := { stood := { row := superApartRow, standIns := [], harness := (true, "5165ff9e9504f283ec975c16672a877ad0c9f07b3de34872f5a8c08ac8165fa0"), looks := false }, kinds := [], alts := [], laidByText := true, laidKinds := [.data], laidTests := true, laidLooks := .later }
def SuperApartCardSaid : Prop := Claim7.holds Tryd.pinned (.plain (OpenSpec.ofChange superApartSpec)) superApartCard

/-- THE SECOND FORM's CARD OF 'flashcachelaw07.HeaderValid'. -/
def headerValidUptoCard : Claim7 := { stood := { row := headerValidUptoRow, standIns := [], harness := (true, "5165ff9e9504f283ec975c16672a877ad0c9f07b3de34872f5a8c08ac8165fa0"), looks := false }, kinds := [], alts := [], laidByText := true, laidKinds := [.data], laidTests := true, laidLooks := .later }
def HeaderValidUptoCardSaid : Prop := Claim7.holds Tryd.pinned (.plain (OpenSpec.upto headerValidSpec)) headerValidUptoCard

/-- THE SECOND FORM's CARD OF 'flashcachelaw07.HeaderEncode'. -/
def headerEncodeUptoCard : Claim7 := { stood := { row := headerEncodeUptoRow, standIns := [], harness := (true, "5165ff9e9504f283ec975c16672a877ad0c9f07b3de34872f5a8c08ac8165fa0"), looks := false }, kinds := [], alts := [], laidByText := true, laidKinds := [.data], laidTests := true, laidLooks := .later }
def HeaderEncodeUptoCardSaid : Prop := Claim7.holds Tryd.pinned (.plain (OpenSpec.upto headerEncodeSpec)) headerEncodeUptoCard

/-- THE SECOND FORM's CARD OF 'flashcachelaw07.HeaderDecode'. -/
def headerDecodeUptoCard : Claim7 := { stood := { row := headerDecodeUptoRow, standIns := [], harness := (true, "5165ff9e9504f283ec975c16672a877ad0c9f07b3de34872f5a8c08ac8165fa0"), looks := false }, kinds := [], alts := [], laidByText := true, laidKinds := [.data], laidTests := true, laidLooks := .later }
def HeaderDecodeUptoCardSaid : Prop := Claim7.holds Tryd.pinned (.plain (OpenSpec.upto headerDecodeSpec)) headerDecodeUptoCard

/-- THE SECOND FORM's CARD OF 'flashcachelaw07.HeaderFrame'. -/
def headerFrameUptoCard : Claim7 := { stood := { row := headerFrameUptoRow, standIns := [], harness := (true, "5165ff9e9504f283ec975c16672a877ad0c9f07b3de34872f5a8c08ac8165fa0"), looks := false }, kinds := [], alts := [], laidByText := true, laidKinds := [.data], laidTests := true, laidLooks := .later }
def HeaderFrameUptoCardSaid : Prop := Claim7.holds Tryd.pinned (.plain (OpenSpec.upto headerFrameSpec)) headerFrameUptoCard

/-- THE SECOND FORM's CARD OF 'flashcachelaw07.HeaderOther'. -/
def headerOtherUptoCard : Claim7 := { stood := { row := headerOtherUptoRow, standIns := [], harness := (true, "5165ff9e9504f283ec975c16672a877ad0c9f07b3de34872f5a8c08ac8165fa0"), looks := false }, kinds := [], alts := [], laidByText := true, laidKinds := [.data], laidTests := true, laidLooks := .later }
def HeaderOtherUptoCardSaid : Prop := Claim7.holds Tryd.pinned (.plain (OpenSpec.upto headerOtherSpec)) headerOtherUptoCard

/-- THE SECOND FORM's CARD OF 'flashcachelaw08.SuperValid'. -/
def superValidUptoCard : Claim7 := { stood := { row := superValidUptoRow, standIns := [], harness := (true, "5165ff9e9504f283ec975c16672a877ad0c9f07b3de34872f5a8c08ac8165fa0"), looks := false }, kinds := [], alts := [], laidByText := true, laidKinds := [.data], laidTests := true, laidLooks := .later }
def SuperValidUptoCardSaid : Prop := Claim7.holds Tryd.pinned (.plain (OpenSpec.upto superValidSpec)) superValidUptoCard

/-- THE SECOND FORM's CARD OF 'flashcachelaw08.SuperEncode'. -/
def superEncodeUptoCard : Claim7 := { stood := { row := superEncodeUptoRow, standIns := [], harness := (true, "5165ff9e9504f283ec975c16672a877ad0c9f07b3de34872f5a8c08ac8165fa0"), looks := false }, kinds := [], alts := [], laidByText := true, laidKinds := [.data], laidTests := true, laidLooks := .later }
def SuperEncodeUptoCardSaid : Prop := Claim7.holds Tryd.pinned (.plain (OpenSpec.upto superEncodeSpec)) superEncodeUptoCard

/-- THE SECOND FORM's CARD OF 'flashcachelaw08.SuperDecode'. -/
def superDecodeUptoCard : Claim7 := { stood := { row := superDecodeUptoRow, standIns := [], harness := (true, "5165ff9e9504f283ec975c16672a877ad0c9f07b3de34872f5a8c08ac8165fa0"), looks := false }, kinds := [], alts := [], laidByText := true, laidKinds := [.data], laidTests := true, laidLooks := .later }
def SuperDecodeUptoCardSaid : Prop := Claim7.holds Tryd.pinned (.plain (OpenSpec.upto superDecodeSpec)) superDecodeUptoCard

/-- THE SECOND FORM's CARD OF 'flashcachelaw08.SuperApart'. -/
def superApartUptoCard : Claim7 := { stood := { row := superApartUptoRow, standIns := [], harness := (true, "5165ff9e9504f283ec975c16672a877ad0c9f07b3de34872f5a8c08ac8165fa0"), looks := false }, kinds := [], alts := [], laidByText := true, laidKinds := [.data], laidTests := true, laidLooks := .later }
def SuperApartUptoCardSaid : Prop := Claim7.holds Tryd.pinned (.plain (OpenSpec.upto superApartSpec)) superApartUptoCard
end Rows
end Go.Proofs.YtjfgnojmdbfnmaaDoor
