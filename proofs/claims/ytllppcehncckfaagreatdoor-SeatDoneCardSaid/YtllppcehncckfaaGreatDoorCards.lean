/-
  DERIVED. GIVEN WITH THE SEED: THE CARDS: each row of YtllppcehncckfaaGreatDoorRows.lean that lists a variable, with what it lists TIED to the program's text (the seventh form; the later family's looks); each row that meets fmt, with fmt's text TOLD by the authors' own Lean function (tested against real Go, not proved from fmt's source: count such statements apart). THE CARD IS WHAT COUNTS. Prove the row's statement (the work); the ties are given (YtllppcehncckfaaGreatDoorTie.lean); close each card by the builder's one call (the guide's Derived/Test/ToyasCard.lean, 'card_holds'). Laid BY PROGRAM, IN A SANDBOX (cutbox-door.mjs). By AI agents, Wed Nov 11 2026. No macro, syntax, notation, axiom, sorry.
-/
import Derived.Test.YtllppcehncckfaaGreatDoorRows
import GoSem.ClaimSeven
namespace Go.Proofs.YtllppcehncckfaaGreatDoor
namespace Rows

/-- THE TIED CARD OF 'satrapylaw18.SeatDone'. -/
def seatDoneCard : Claim7 := { stood := { row := seatDoneRow, standIns := [], harness := (true, "039116a14f36fa8fad8e81f7c35e7748d3148c2c401f67bec783f73f21bc4b85"), looks := false }, kinds := [], alts := [], laidByText := true, laidKinds := [.data, .data], laidTests := true, laidLooks := .later }
def SeatDoneCardSaid : Prop := Claim7.holds Tryz.pinned (.plain (OpenSpec.ofChange seatDoneSpec)) seatDoneCard

/-- THE TIED CARD OF 'satrapylaw18.SeatPulls'. -/
def seatPullsCard : Claim7 := { stood := { row := seatPullsRow, standIns := [], harness := (true, "039116a14f36fa8fad8e81f7c35e7748d3148c2c401f67bec783f73f21bc4b85"), looks := false }, kinds := [], alts := [], laidByText := true, laidKinds := [.data, .data], laidTests := true, laidLooks := .later }
def SeatPullsCardSaid : Prop := Claim7.holds Tryz.pinned (.plain (OpenSpec.ofChange seatPullsSpec)) seatPullsCard

/-- THE TIED CARD OF 'satrapylaw18.SeatOfNothing'. -/
def seatOfNothingCard : Claim7 := { stood := { row := seatOfNothingRow, standIns := [], harness := (true, "039116a14f36fa8fad8e81f7c35e7748d3148c2c401f67bec783f73f21bc4b85"), looks := false }, kinds := [], alts := [], laidByText := true, laidKinds := [.data, .data], laidTests := true, laidLooks := .later }
def SeatOfNothingCardSaid : Prop := Claim7.holds Tryz.pinned (.plain (OpenSpec.ofChange seatOfNothingSpec)) seatOfNothingCard

/-- THE SECOND FORM's CARD OF 'satrapylaw18.SeatDone'. -/
def seatDoneUptoCard : Claim7 := { stood := { row := seatDoneUptoRow, standIns := [], harness := (true, "039116a14f36fa8fad8e81f7c35e7748d3148c2c401f67bec783f73f21bc4b85"), looks := false }, kinds := [], alts := [], laidByText := true, laidKinds := [.data, .data], laidTests := true, laidLooks := .later }
def SeatDoneUptoCardSaid : Prop := Claim7.holds Tryz.pinned (.plain (OpenSpec.upto seatDoneSpec)) seatDoneUptoCard

/-- THE SECOND FORM's CARD OF 'satrapylaw18.SeatPulls'. -/
def seatPullsUptoCard : Claim7 := { stood := { row := seatPullsUptoRow, standIns := [], harness := (true, "039116a14f36fa8fad8e81f7c35e7748d3148c2c401f67bec783f73f21bc4b85"), looks := false }, kinds := [], alts := [], laidByText := true, laidKinds := [.data, .data], laidTests := true, laidLooks := .later }
def SeatPullsUptoCardSaid : Prop := Claim7.holds Tryz.pinned (.plain (OpenSpec.upto seatPullsSpec)) seatPullsUptoCard

/-- THE SECOND FORM's CARD OF 'satrapylaw18.SeatOfNothing'. -/
def seatOfNothingUptoCard : Claim7 := { stood := { row := seatOfNothingUptoRow, standIns := [], harness := (true, "039116a14f36fa8fad8e81f7c35e7748d3148c2c401f67bec783f73f21bc4b85"), looks := false }, kinds := [], alts := [], laidByText := true, laidKinds := [.data, .data], laidTests := true, laidLooks := .later }
def SeatOfNothingUptoCardSaid : Prop := Claim7.holds Tryz.pinned (.plain (OpenSpec.upto seatOfNothingSpec)) seatOfNothingUptoCard
end Rows
end Go.Proofs.YtllppcehncckfaaGreatDoor
