/-
  DERIVED. GIVEN WITH THE SEED: THE CARDS: each row of YteibnmohoclocaaDoorRows.lean that lists a variable, with what it lists TIED to the program's text (the seventh form; the later family's looks); each row that meets fmt, with fmt's text TOLD by the authors' own Lean function (tested against real Go, not proved from fmt's source: count such statements apart). THE CARD IS WHAT COUNTS. Prove the row's statement (the work); the ties are given (YteibnmohoclocaaDoorTie.lean); close each card by the builder's one call (the guide's Derived/Test/ToyasCard.lean, 'card_holds'). Laid BY PROGRAM, IN A SANDBOX (cutbox-door.mjs). By AI agents, Wed Nov 11 2026. No macro, syntax, notation, axiom, sorry.
-/
import Derived.Test.YteibnmohoclocaaDoorRows
import GoSem.ClaimSeven
namespace Go.Proofs.YteibnmohoclocaaDoor
namespace Rows

/-- THE TIED CARD OF 'satrapylaw25.GateRounds'. -/
def gateRoundsCard : Claim7 := { stood := { row := gateRoundsRow, standIns := [], harness := (true, "ae24274110ca478f8f497bfddb475f136ca52f4da9e34de84663a103c98ad009"), looks := false }, kinds := [], alts := [], laidByText := true, laidKinds := [.data, .data], laidTests := true, laidLooks := .later }
def GateRoundsCardSaid : Prop := Claim7.holds Tryd.pinned (.plain (OpenSpec.ofChange gateRoundsSpec)) gateRoundsCard

/-- THE SECOND FORM's CARD OF 'satrapylaw25.GateRounds'. -/
def gateRoundsUptoCard : Claim7 := { stood := { row := gateRoundsUptoRow, standIns := [], harness := (true, "ae24274110ca478f8f497bfddb475f136ca52f4da9e34de84663a103c98ad009"), looks := false }, kinds := [], alts := [], laidByText := true, laidKinds := [.data, .data], laidTests := true, laidLooks := .later }
def GateRoundsUptoCardSaid : Prop := Claim7.holds Tryd.pinned (.plain (OpenSpec.upto gateRoundsSpec)) gateRoundsUptoCard
end Rows
end Go.Proofs.YteibnmohoclocaaDoor
