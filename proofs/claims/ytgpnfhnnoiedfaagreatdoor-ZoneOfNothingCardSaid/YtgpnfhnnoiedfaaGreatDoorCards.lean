/-
  DERIVED. GIVEN WITH THE SEED: THE CARDS: each row of YtgpnfhnnoiedfaaGreatDoorRows.lean that lists a variable, with what it lists TIED to the program's text (the seventh form; the later family's looks); each row that meets fmt, with fmt's text TOLD by the authors' own Lean function (tested against real Go, not proved from fmt's source: count such statements apart). THE CARD IS WHAT COUNTS. Prove the row's statement (the work); the ties are given (YtgpnfhnnoiedfaaGreatDoorTie.lean); close each card by the builder's one call (the guide's Derived/Test/ToyasCard.lean, 'card_holds'). Laid BY PROGRAM, IN A SANDBOX (cutbox-door.mjs). By AI agents, Wed Nov 11 2026. No macro, syntax, notation, axiom, sorry.
-/
import Derived.Test.YtgpnfhnnoiedfaaGreatDoorRows
import GoSem.ClaimSeven
namespace Go.Proofs.YtgpnfhnnoiedfaaGreatDoor
namespace Rows

/-- THE TIED CARD OF 'satrapylaw15.ZoneOfNothing'. -/
def zoneOfNothingCard : Claim7 := { stood := { row := zoneOfNothingRow, standIns := [], harness := (true, "383595ff04f44e77f224b553df3a1256f5bc610f69400ec1a9a8b6a165cefae8"), looks := true }, kinds := [], alts := [], laidByText := true, laidKinds := [.data, .data, .data, .data, .data], laidTests := true, laidLooks := .later }
def ZoneOfNothingCardSaid : Prop := Claim7.holds Tryz.pinned (.plain (OpenSpec.ofChange zoneOfNothingSpec)) zoneOfNothingCard

/-- THE TIED CARD OF 'satrapylaw23.TargetOfNothing'. -/
def targetOfNothingCard : Claim7 := { stood := { row := targetOfNothingRow, standIns := [], harness := (true, "383595ff04f44e77f224b553df3a1256f5bc610f69400ec1a9a8b6a165cefae8"), looks := true }, kinds := [], alts := [], laidByText := true, laidKinds := [.data, .data, .data, .data, .data], laidTests := true, laidLooks := .later }
def TargetOfNothingCardSaid : Prop := Claim7.holds Tryz.pinned (.plain (OpenSpec.ofChange targetOfNothingSpec)) targetOfNothingCard

/-- THE SECOND FORM's CARD OF 'satrapylaw15.ZoneOfNothing'. -/
def zoneOfNothingUptoCard : Claim7 := { stood := { row := zoneOfNothingUptoRow, standIns := [], harness := (true, "383595ff04f44e77f224b553df3a1256f5bc610f69400ec1a9a8b6a165cefae8"), looks := true }, kinds := [], alts := [], laidByText := true, laidKinds := [.data, .data, .data, .data, .data], laidTests := true, laidLooks := .later }
def ZoneOfNothingUptoCardSaid : Prop := Claim7.holds Tryz.pinned (.plain (OpenSpec.upto zoneOfNothingSpec)) zoneOfNothingUptoCard

/-- THE SECOND FORM's CARD OF 'satrapylaw23.TargetOfNothing'. -/
def targetOfNothingUptoCard : Claim7 := { stood := { row := targetOfNothingUptoRow, standIns := [], harness := (true, "383595ff04f44e77f224b553df3a1256f5bc610f69400ec1a9a8b6a165cefae8"), looks := true }, kinds := [], alts := [], laidByText := true, laidKinds := [.data, .data, .data, .data, .data], laidTests := true, laidLooks := .later }
def TargetOfNothingUptoCardSaid : Prop := Claim7.holds Tryz.pinned (.plain (OpenSpec.upto targetOfNothingSpec)) targetOfNothingUptoCard
end Rows
end Go.Proofs.YtgpnfhnnoiedfaaGreatDoor
