/-
  DERIVED. GIVEN WITH THE SEED: THE CARDS: each row of YtcjnhemlkahgoaaDoorRows.lean that lists a variable, with what it lists TIED to the program's text (the seventh form; the later family's looks); each row that meets fmt, with fmt's text TOLD by the authors' own Lean function (tested against real Go, not proved from fmt's source: count such statements apart). THE CARD IS WHAT COUNTS. Prove the row's statement (the work); the ties are given (YtcjnhemlkahgoaaDoorTie.lean); close each card by the builder's one call (the guide's Derived/Test/ToyasCard.lean, 'card_holds'). Laid BY PROGRAM, IN A SANDBOX (cutbox-door.mjs). By AI agents, Wed Nov 11 2026. No macro, syntax, notation, axiom, sorry.
-/
import Derived.Test.YtcjnhemlkahgoaaDoorRows
import GoSem.ClaimSeven
namespace Go.Proofs.YtcjnhemlkahgoaaDoor
namespace Rows

/-- THE TIED CARD OF 'flashcachelaw08.SuperDecode'. -/
def superDecodeCard : Claim7 := { stood := { row := superDecodeRow, standIns := [], harness := (true, "c2389960e5022b8ea4002503dda6f838efcf6f585b37b613a1bf4b4db82bcaea"), looks := false }, kinds := [], alts := [], laidByText := true, laidKinds := [.data], laidTests := true, laidLooks := .later }
def SuperDecodeCardSaid : Prop := Claim7.holds Tryd.pinned (.plain (OpenSpec.ofChange superDecodeSpec)) superDecodeCard

/-- THE TIED CARD OF 'flashcachelaw09.PairLoad'. -/
def pairLoadCard : Claim7 := { stood := { row := pairLoadRow, standIns := [], harness := (true, "c2389960e5022b8ea4002503dda6f838efcf6f585b37b613a1bf4b4db82bcaea"), looks := false }, kinds := [], alts := [], laidByText := true, laidKinds := [.data], laidTests := true, laidLooks := .later }
def PairLoadCardSaid : Prop := Claim7.holds Tryd.pinned (.plain (OpenSpec.ofChange pairLoadSpec)) pairLoadCard

/-- THE TIED CARD OF 'flashcachelaw09.PairPublish'. -/
def pairPublishCard : Claim7 := { stood := { row := pairPublishRow, standIns := [], harness := (true, "c2389960e5022b8ea4002503dda6f838efcf6f585b37b613a1bf4b4db82bcaea"), looks := false }, kinds := [], alts := [], laidByText := true, laidKinds := [.data], laidTests := true, laidLooks := .later }
def PairPublishCardSaid : Prop := Claim7.holds Tryd.pinned (.plain (OpenSpec.ofChange pairPublishSpec)) pairPublishCard

/-- THE TIED CARD OF 'flashcachelaw09.PairAtomic'. -/
def pairAtomicCard : Claim7 := { stood := { row := pairAtomicRow, standIns := [], harness := (true, "c2389960e5022b8ea4002503dda6f838efcf6f585b37b613a1bf4b4db82bcaea"), looks := false }, kinds := [], alts := [], laidByText := true, laidKinds := [.data], laidTests := true, laidLooks := .later }
def PairAtomicCardSaid : Prop := Claim7.holds Tryd.pinned (.plain (OpenSpec.ofChange pairAtomicSpec)) pairAtomicCard

/-- THE TIED CARD OF 'flashcachelaw09.PairTorn'. -/
def pairTornCard : Claim7 := { stood := { row := pairTornRow, standIns := [], harness := (true, "c2389960e5022b8ea4002503dda6f838efcf6f585b37b613a1bf4b4db82bcaea"), looks := false }, kinds := [], alts := [], laidByText := true, laidKinds := [.data], laidTests := true, laidLooks := .later }
def PairTornCardSaid : Prop := Claim7.holds Tryd.pinned (.plain (OpenSpec.ofChange pairTornSpec)) pairTornCard

/-- THE SECOND FORM's CARD OF 'flashcachelaw08.SuperDecode'. -/
def superDecodeUptoCard : Claim7 := { stood := { row := superDecodeUptoRow, standIns := [], harness := (true, "c2389960e5022b8ea4002503dda6f838efcf6f585b37b613a1bf4b4db82bcaea"), looks := false }, kinds := [], alts := [], laidByText := true, laidKinds := [.data], laidTests := true, laidLooks := .later }
def SuperDecodeUptoCardSaid : Prop := Claim7.holds Tryd.pinned (.plain (OpenSpec.upto superDecodeSpec)) superDecodeUptoCard

/-- THE SECOND FORM's CARD OF 'flashcachelaw09.PairLoad'. -/
def pairLoadUptoCard : Claim7 := { stood := { row := pairLoadUptoRow, standIns := [], harness := (true, "c2389960e5022b8ea4002503dda6f838efcf6f585b37b613a1bf4b4db82bcaea"), looks := false }, kinds := [], alts := [], laidByText := true, laidKinds := [.data], laidTests := true, laidLooks := .later }
def PairLoadUptoCardSaid : Prop := Claim7.holds Tryd.pinned (.plain (OpenSpec.upto pairLoadSpec)) pairLoadUptoCard

/-- THE SECOND FORM's CARD OF 'flashcachelaw09.PairPublish'. -/
def pairPublishUptoCard : Claim7 := { stood := { row := pairPublishUptoRow, standIns := [], harness := (true, "c2389960e5022b8ea4002503dda6f838efcf6f585b37b613a1bf4b4db82bcaea"), looks := false }, kinds := [], alts := [], laidByText := true, laidKinds := [.data], laidTests := true, laidLooks := .later }
def PairPublishUptoCardSaid : Prop := Claim7.holds Tryd.pinned (.plain (OpenSpec.upto pairPublishSpec)) pairPublishUptoCard

/-- THE SECOND FORM's CARD OF 'flashcachelaw09.PairAtomic'. -/
def pairAtomicUptoCard : Claim7 := { stood := { row := pairAtomicUptoRow, standIns := [], harness := (true, "c2389960e5022b8ea4002503dda6f838efcf6f585b37b613a1bf4b4db82bcaea"), looks := false }, kinds := [], alts := [], laidByText := true, laidKinds := [.data], laidTests := true, laidLooks := .later }
def PairAtomicUptoCardSaid : Prop := Claim7.holds Tryd.pinned (.plain (OpenSpec.upto pairAtomicSpec)) pairAtomicUptoCard

/-- THE SECOND FORM's CARD OF 'flashcachelaw09.PairTorn'. -/
def pairTornUptoCard : Claim7 := { stood := { row := pairTornUptoRow, standIns := [], harness := (true, "c2389960e5022b8ea4002503dda6f838efcf6f585b37b613a1bf4b4db82bcaea"), looks := false }, kinds := [], alts := [], laidByText := true, laidKinds := [.data], laidTests := true, laidLooks := .later }
def PairTornUptoCardSaid : Prop := Claim7.holds Tryd.pinned (.plain (OpenSpec.upto pairTornSpec)) pairTornUptoCard
end Rows
end Go.Proofs.YtcjnhemlkahgoaaDoor
