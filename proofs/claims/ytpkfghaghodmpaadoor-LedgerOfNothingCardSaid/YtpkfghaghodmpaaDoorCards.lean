/-
  DERIVED. GIVEN WITH THE SEED: THE CARDS: each row of YtpkfghaghodmpaaDoorRows.lean that lists a variable, with what it lists TIED to the program's text (the seventh form; the later family's looks); each row that meets fmt, with fmt's text TOLD by the authors' own Lean function (tested against real Go, not proved from fmt's source: count such statements apart). THE CARD IS WHAT COUNTS. Prove the row's statement (the work); the ties are given (YtpkfghaghodmpaaDoorTie.lean); close each card by the builder's one call (the guide's Derived/Test/ToyasCard.lean, 'card_holds'). Laid BY PROGRAM, IN A SANDBOX (cutbox-door.mjs). By AI agents, Wed Nov 11 2026. No macro, syntax, notation, axiom, sorry.
-/
import Derived.Test.YtpkfghaghodmpaaDoorRows
import GoSem.ClaimSeven
namespace Go.Proofs.YtpkfghaghodmpaaDoor
namespace Rows

/-- THE TIED CARD OF 'satrapylaw14.LedgerOfNothing'. -/
def ledgerOfNothingCard : Claim7 := { stood := { row := ledgerOfNothingRow, standIns := [], harness := (true, "a031ac5527e486bef1efec245d2178e286563a7a8460d8ff0da4f530dfedd5f2"), looks := false }, kinds := [], alts := [], laidByText := true, laidKinds := [.data, .data], laidTests := true, laidLooks := .later }
def LedgerOfNothingCardSaid : Prop := Claim7.holds Tryd.pinned (.plain (OpenSpec.ofChange ledgerOfNothingSpec)) ledgerOfNothingCard

/-- THE SECOND FORM's CARD OF 'satrapylaw14.LedgerOfNothing'. -/
def ledgerOfNothingUptoCard : Claim7 := { stood := { row := ledgerOfNothingUptoRow, standIns := [], harness := (true, "a031ac5527e486bef1efec245d2178e286563a7a8460d8ff0da4f530dfedd5f2"), looks := false }, kinds := [], alts := [], laidByText := true, laidKinds := [.data, .data], laidTests := true, laidLooks := .later }
def LedgerOfNothingUptoCardSaid : Prop := Claim7.holds Tryd.pinned (.plain (OpenSpec.upto ledgerOfNothingSpec)) ledgerOfNothingUptoCard
end Rows
end Go.Proofs.YtpkfghaghodmpaaDoor
