/-
  DERIVED. GIVEN WITH THE SEED: THE CARDS: each row of YtpkpgjmoeklgcaaDoorRows.lean that lists a variable, with what it lists TIED to the program's text (the seventh form; the later family's looks); each row that meets fmt, with fmt's text TOLD by the authors' own Lean function (tested against real Go, not proved from fmt's source: count such statements apart). THE CARD IS WHAT COUNTS. Prove the row's statement (the work); the ties are given (YtpkpgjmoeklgcaaDoorTie.lean); close each card by the builder's one call (the guide's Derived/Test/ToyasCard.lean, 'card_holds'). Laid BY PROGRAM, IN A SANDBOX (cutbox-door.mjs). By AI agents, Wed Nov 11 2026. No macro, syntax, notation, axiom, sorry.
-/
import Derived.Test.YtpkpgjmoeklgcaaDoorRows
import GoSem.ClaimSeven
namespace Go.Proofs.YtpkpgjmoeklgcaaDoor
namespace Rows

/-- THE TIED CARD OF 'satrapylaw25.GateOfNothing'. -/
def gateOfNothingCard : Claim7 := { stood := { row := gateOfNothingRow, standIns := [], harness := (true, "8fbc674a8cd2e2b6b040982fd52e228adca4d51ba17870001ec36d7de84fca3e"), looks := false }, kinds := [], alts := [], laidByText := true, laidKinds := [.data, .data], laidTests := true, laidLooks := .later }
def GateOfNothingCardSaid : Prop := Claim7.holds Tryd.pinned (.plain (OpenSpec.ofChange gateOfNothingSpec)) gateOfNothingCard

/-- THE SECOND FORM's CARD OF 'satrapylaw25.GateOfNothing'. -/
def gateOfNothingUptoCard : Claim7 := { stood := { row := gateOfNothingUptoRow, standIns := [], harness := (true, "8fbc674a8cd2e2b6b040982fd52e228adca4d51ba17870001ec36d7de84fca3e"), looks := false }, kinds := [], alts := [], laidByText := true, laidKinds := [.data, .data], laidTests := true, laidLooks := .later }
def GateOfNothingUptoCardSaid : Prop := Claim7.holds Tryd.pinned (.plain (OpenSpec.upto gateOfNothingSpec)) gateOfNothingUptoCard
end Rows
end Go.Proofs.YtpkpgjmoeklgcaaDoor
