/-
  DERIVED. GIVEN WITH THE SEED: THE CARDS: each row of YtdbhmcldfikkmaaGreatDoorRows.lean that lists a variable, with what it lists TIED to the program's text (the seventh form; the later family's looks); each row that meets fmt, with fmt's text TOLD by the authors' own Lean function (tested against real Go, not proved from fmt's source: count such statements apart). THE CARD IS WHAT COUNTS. Prove the row's statement (the work); the ties are given (YtdbhmcldfikkmaaGreatDoorTie.lean); close each card by the builder's one call (the guide's Derived/Test/ToyasCard.lean, 'card_holds'). Laid BY PROGRAM, IN A SANDBOX (cutbox-door.mjs). By AI agents, Wed Nov 11 2026. No macro, syntax, notation, axiom, sorry.
-/
import Derived.Test.YtdbhmcldfikkmaaGreatDoorRows
import GoSem.ClaimSeven
namespace Go.Proofs.YtdbhmcldfikkmaaGreatDoor
namespace Rows

/-- THE TIED CARD OF 'satrapylaw25.GateMoved'. -/
def gateMovedCard : Claim7 := { stood := { row := gateMovedRow, standIns := [], harness := (true, "b61858c9c04d46f3f7c0d32034a44940a4ee20f945591d7f3df6eacaeee8587d"), looks := false }, kinds := [], alts := [], laidByText := true, laidKinds := [.data, .data], laidTests := true, laidLooks := .later }
def GateMovedCardSaid : Prop := Claim7.holds Tryz.pinned (.plain (OpenSpec.ofChange gateMovedSpec)) gateMovedCard

/-- THE SECOND FORM's CARD OF 'satrapylaw25.GateMoved'. -/
def gateMovedUptoCard : Claim7 := { stood := { row := gateMovedUptoRow, standIns := [], harness := (true, "b61858c9c04d46f3f7c0d32034a44940a4ee20f945591d7f3df6eacaeee8587d"), looks := false }, kinds := [], alts := [], laidByText := true, laidKinds := [.data, .data], laidTests := true, laidLooks := .later }
def GateMovedUptoCardSaid : Prop := Claim7.holds Tryz.pinned (.plain (OpenSpec.upto gateMovedSpec)) gateMovedUptoCard
end Rows
end Go.Proofs.YtdbhmcldfikkmaaGreatDoor
