/-
  No cell of these rows narrows 'for every input' (looked for: loops, veiled, ifaces, maps, wideKeys, modest, calm, conditions, laid).
  DERIVED. THE GIVEN ROWS OF THIS SEAT. 9 by the template 'for every input the law returns true; each argument reads behind the call as it read before'; 0 by the template 'total and deterministic' (their statements: YtliljfncbljfpaaTotals.lean).
  GIVEN WITH THE SEED: the statements are not yours to turn. If you find one false, say at which input.
  Laid BY PROGRAM, IN A SANDBOX (cutbox-rows.mjs): the forced cells as the released guide's own fill.sh prints them over the translation 1f10cbde3a1ee8f5… (all of the seat's roots in one cut). By AI agents, Wed Nov 11 2026. No macro, syntax, notation, axiom, sorry.
-/
import Derived.Test.YtliljfncbljfpaaChecked
import GoSem.Claim
import GoSem.ClaimJoined
import GoSem.ClaimMapViews
import Derived.JoinedTies
import Derived.KernelRfl
namespace Go.Proofs.Ytliljfncbljfpaa
/- THE CELL 'sum', in the pinned program and in every row, IS THE sha256 OF THE DUMP (.gsa) THAT YtliljfncbljfpaaProg.lean LOADS. Nothing in Lean hashes anything: it is a label: what it is worth is what the hold of that sum in a sandbox is worth. -/
noncomputable def Try.pinned : Pinned := { name := "ytliljfncbljfpaa", sum := "1f10cbde3a1ee8f5d8df0cb96ad7ccf1def5fb58a25f95afc4ffd6b72446f8db", checked := Try.checked }
namespace Rows
def none {H : Type} : Left H := { results := [], args := [] }

/-- 'satrapylaw10.OpEncodes': WHATEVER THE INPUT: true; the input reads as it did. -/
def opEncodesSpec : ChangeSpec := { name := "opEncodes", fn := fun _ => fun
  | [d] => { results := [.lit (.bool true)], args := [d] }
  | _ => none }
def opEncodesRow : OpenClaim := { program := "ytliljfncbljfpaa", sum := "1f10cbde3a1ee8f5d8df0cb96ad7ccf1def5fb58a25f95afc4ffd6b72446f8db", func := "satrapy/satrapylaw10.OpEncodes", spec := "opEncodes", unfollowed := true, recurses := true, apart := false }
def OpEncodesSaid : Prop := opEncodesRow.holds Try.pinned (OpenSpec.ofChange opEncodesSpec)

/-- ITS FALSE NEIGHBOUR: 'it returns false'. Refute it at one input. -/
def opEncodesWrong : ChangeSpec := { name := "opEncodes", fn := fun _ => fun
  | [d] => { results := [.lit (.bool false)], args := [d] }
  | _ => none }
def OpEncodesWrongFalsely : Prop := opEncodesRow.holds Try.pinned (OpenSpec.ofChange opEncodesWrong)

/-- 'satrapylaw10.OpDecodes': WHATEVER THE INPUT: true; the input reads as it did. -/
def opDecodesSpec : ChangeSpec := { name := "opDecodes", fn := fun _ => fun
  | [d] => { results := [.lit (.bool true)], args := [d] }
  | _ => none }
def opDecodesRow : OpenClaim := { program := "ytliljfncbljfpaa", sum := "1f10cbde3a1ee8f5d8df0cb96ad7ccf1def5fb58a25f95afc4ffd6b72446f8db", func := "satrapy/satrapylaw10.OpDecodes", spec := "opDecodes", unfollowed := true, recurses := true, apart := false }
def OpDecodesSaid : Prop := opDecodesRow.holds Try.pinned (OpenSpec.ofChange opDecodesSpec)

/-- ITS FALSE NEIGHBOUR: 'it returns false'. Refute it at one input. -/
def opDecodesWrong : ChangeSpec := { name := "opDecodes", fn := fun _ => fun
  | [d] => { results := [.lit (.bool false)], args := [d] }
  | _ => none }
def OpDecodesWrongFalsely : Prop := opDecodesRow.holds Try.pinned (OpenSpec.ofChange opDecodesWrong)

/-- 'satrapylaw10.OpReplies': WHATEVER THE INPUT: true; the input reads as it did. -/
def opRepliesSpec : ChangeSpec := { name := "opReplies", fn := fun _ => fun
  | [d1, d2] => { results := [.lit (.bool true)], args := [d1, d2] }
  | _ => none }
def opRepliesRow : OpenClaim := { program := "ytliljfncbljfpaa", sum := "1f10cbde3a1ee8f5d8df0cb96ad7ccf1def5fb58a25f95afc4ffd6b72446f8db", func := "satrapy/satrapylaw10.OpReplies", spec := "opReplies", unfollowed := true, recurses := true, apart := false }
def OpRepliesSaid : Prop := opRepliesRow.holds Try.pinned (OpenSpec.ofChange opRepliesSpec)

/-- ITS FALSE NEIGHBOUR: 'it returns false'. Refute it at one input. -/
def opRepliesWrong : ChangeSpec := { name := "opReplies", fn := fun _ => fun
  | [d1, d2] => { results := [.lit (.bool false)], args := [d1, d2] }
  | _ => none }
def OpRepliesWrongFalsely : Prop := opRepliesRow.holds Try.pinned (OpenSpec.ofChange opRepliesWrong)

/-- 'satrapylaw10.OpApart': WHATEVER THE INPUT: true; the input reads as it did. -/
def opApartSpec : ChangeSpec := { name := "opApart", fn := fun _ => fun
  | [d1, d2] => { results := [.lit (.bool true)], args := [d1, d2] }
  | _ => none }
def opApartRow : OpenClaim := { program := "ytliljfncbljfpaa", sum := "1f10cbde3a1ee8f5d8df0cb96ad7ccf1def5fb58a25f95afc4ffd6b72446f8db", func := "satrapy/satrapylaw10.OpApart", spec := "opApart", unfollowed := true, recurses := true, apart := false }
def OpApartSaid : Prop := opApartRow.holds Try.pinned (OpenSpec.ofChange opApartSpec)

/-- ITS FALSE NEIGHBOUR: 'it returns false'. Refute it at one input. -/
def opApartWrong : ChangeSpec := { name := "opApart", fn := fun _ => fun
  | [d1, d2] => { results := [.lit (.bool false)], args := [d1, d2] }
  | _ => none }
def OpApartWrongFalsely : Prop := opApartRow.holds Try.pinned (OpenSpec.ofChange opApartWrong)

/-- 'satrapylaw10.OpKinds': WHATEVER THE INPUT: true; the input reads as it did. -/
def opKindsSpec : ChangeSpec := { name := "opKinds", fn := fun _ => fun
  | [d1, d2] => { results := [.lit (.bool true)], args := [d1, d2] }
  | _ => none }
def opKindsRow : OpenClaim := { program := "ytliljfncbljfpaa", sum := "1f10cbde3a1ee8f5d8df0cb96ad7ccf1def5fb58a25f95afc4ffd6b72446f8db", func := "satrapy/satrapylaw10.OpKinds", spec := "opKinds", unfollowed := true, recurses := true, apart := false }
def OpKindsSaid : Prop := opKindsRow.holds Try.pinned (OpenSpec.ofChange opKindsSpec)

/-- ITS FALSE NEIGHBOUR: 'it returns false'. Refute it at one input. -/
def opKindsWrong : ChangeSpec := { name := "opKinds", fn := fun _ => fun
  | [d1, d2] => { results := [.lit (.bool false)], args := [d1, d2] }
  | _ => none }
def OpKindsWrongFalsely : Prop := opKindsRow.holds Try.pinned (OpenSpec.ofChange opKindsWrong)

/-- 'satrapylaw21.PieceGoes': WHATEVER THE INPUT: true; the input reads as it did. -/
def pieceGoesSpec : ChangeSpec := { name := "pieceGoes", fn := fun _ => fun
  | [d1, d2] => { results := [.lit (.bool true)], args := [d1, d2] }
  | _ => none }
def pieceGoesRow : OpenClaim := { program := "ytliljfncbljfpaa", sum := "1f10cbde3a1ee8f5d8df0cb96ad7ccf1def5fb58a25f95afc4ffd6b72446f8db", func := "satrapy/satrapylaw21.PieceGoes", spec := "pieceGoes", unfollowed := true, recurses := true, apart := false }
def PieceGoesSaid : Prop := pieceGoesRow.holds Try.pinned (OpenSpec.ofChange pieceGoesSpec)

/-- ITS FALSE NEIGHBOUR: 'it returns false'. Refute it at one input. -/
def pieceGoesWrong : ChangeSpec := { name := "pieceGoes", fn := fun _ => fun
  | [d1, d2] => { results := [.lit (.bool false)], args := [d1, d2] }
  | _ => none }
def PieceGoesWrongFalsely : Prop := pieceGoesRow.holds Try.pinned (OpenSpec.ofChange pieceGoesWrong)

/-- 'satrapylaw21.PieceComes': WHATEVER THE INPUT: true; the input reads as it did. -/
def pieceComesSpec : ChangeSpec := { name := "pieceComes", fn := fun _ => fun
  | [d1, d2] => { results := [.lit (.bool true)], args := [d1, d2] }
  | _ => none }
def pieceComesRow : OpenClaim := { program := "ytliljfncbljfpaa", sum := "1f10cbde3a1ee8f5d8df0cb96ad7ccf1def5fb58a25f95afc4ffd6b72446f8db", func := "satrapy/satrapylaw21.PieceComes", spec := "pieceComes", unfollowed := true, recurses := true, apart := false }
def PieceComesSaid : Prop := pieceComesRow.holds Try.pinned (OpenSpec.ofChange pieceComesSpec)

/-- ITS FALSE NEIGHBOUR: 'it returns false'. Refute it at one input. -/
def pieceComesWrong : ChangeSpec := { name := "pieceComes", fn := fun _ => fun
  | [d1, d2] => { results := [.lit (.bool false)], args := [d1, d2] }
  | _ => none }
def PieceComesWrongFalsely : Prop := pieceComesRow.holds Try.pinned (OpenSpec.ofChange pieceComesWrong)

/-- 'satrapylaw21.PieceAll': WHATEVER THE INPUT: true; the input reads as it did. -/
def pieceAllSpec : ChangeSpec := { name := "pieceAll", fn := fun _ => fun
  | [d1, d2] => { results := [.lit (.bool true)], args := [d1, d2] }
  | _ => none }
def pieceAllRow : OpenClaim := { program := "ytliljfncbljfpaa", sum := "1f10cbde3a1ee8f5d8df0cb96ad7ccf1def5fb58a25f95afc4ffd6b72446f8db", func := "satrapy/satrapylaw21.PieceAll", spec := "pieceAll", unfollowed := true, recurses := true, apart := false }
def PieceAllSaid : Prop := pieceAllRow.holds Try.pinned (OpenSpec.ofChange pieceAllSpec)

/-- ITS FALSE NEIGHBOUR: 'it returns false'. Refute it at one input. -/
def pieceAllWrong : ChangeSpec := { name := "pieceAll", fn := fun _ => fun
  | [d1, d2] => { results := [.lit (.bool false)], args := [d1, d2] }
  | _ => none }
def PieceAllWrongFalsely : Prop := pieceAllRow.holds Try.pinned (OpenSpec.ofChange pieceAllWrong)

/-- 'satrapylaw21.PieceOfNothing': WHATEVER THE INPUT: true; the input reads as it did. -/
def pieceOfNothingSpec : ChangeSpec := { name := "pieceOfNothing", fn := fun _ => fun
  | [d1, d2] => { results := [.lit (.bool true)], args := [d1, d2] }
  | _ => none }
def pieceOfNothingRow : OpenClaim := { program := "ytliljfncbljfpaa", sum := "1f10cbde3a1ee8f5d8df0cb96ad7ccf1def5fb58a25f95afc4ffd6b72446f8db", func := "satrapy/satrapylaw21.PieceOfNothing", spec := "pieceOfNothing", unfollowed := true, recurses := true, apart := false }
def PieceOfNothingSaid : Prop := pieceOfNothingRow.holds Try.pinned (OpenSpec.ofChange pieceOfNothingSpec)

/-- ITS FALSE NEIGHBOUR: 'it returns false'. Refute it at one input. -/
def pieceOfNothingWrong : ChangeSpec := { name := "pieceOfNothing", fn := fun _ => fun
  | [d1, d2] => { results := [.lit (.bool false)], args := [d1, d2] }
  | _ => none }
def PieceOfNothingWrongFalsely : Prop := pieceOfNothingRow.holds Try.pinned (OpenSpec.ofChange pieceOfNothingWrong)

/- THE SECOND FORM. 'bulk': how many values and letters a reading holds, each counted each time it is reached (what is shared counts as often as it is met; a slice's spare places count too). A statement '..UptoSaid' is the law's where the arguments, and the package variables that the reading takes, are together of bulk at most 1048576: NARROWER than '..Said'. Prove '..Said' where nothing that the law and all that it calls make is longer than what came in: it says more and counts as full. Else prove '..UptoSaid'. A law counts once. -/
mutual
def uptoBulk {H : Type} : DataW H → Nat
  | .lit (.string bytes) => bytes.length + 1
  | .lit _ => 1
  | .nil => 1
  | .ptr d => uptoBulk d + 1
  | .slice elems spare => uptoBulkAll elems + uptoBulkAll spare + 1
  | .agg parts => uptoBulkAll parts + 1
  | .iface _ d => uptoBulk d + 1
  | .map entries => uptoBulkEntries entries + 1
  | .held _ => 1
def uptoBulkAll {H : Type} : List (DataW H) → Nat
  | [] => 0
  | d :: r => uptoBulk d + uptoBulkAll r
def uptoBulkEntries {H : Type} : List (Lit × DataW H) → Nat
  | [] => 0
  | x :: r => uptoBulkEntry x + uptoBulkEntries r
def uptoBulkEntry {H : Type} : Lit × DataW H → Nat
  | (.string bytes, d) => bytes.length + uptoBulk d + 1
  | (_, d) => uptoBulk d + 1
 end
def uptoSmall : (H : Type) → List (DataW H) → Bool := fun _ ds => decide (uptoBulkAll ds ≤ 1048576)
def OpenSpec.upto (s : _root_.Go.ChangeSpec) : _root_.Go.OpenSpec := { _root_.Go.OpenSpec.ofChange s with cond := some uptoSmall }

/-- 'satrapylaw10.OpEncodes', WHERE WHAT IT READS IS OF BULK AT MOST 1048576: true; the input reads as it did. -/
def opEncodesUptoRow : OpenClaim := { program := "ytliljfncbljfpaa", sum := "1f10cbde3a1ee8f5d8df0cb96ad7ccf1def5fb58a25f95afc4ffd6b72446f8db", func := "satrapy/satrapylaw10.OpEncodes", spec := "opEncodes", unfollowed := true, recurses := true, apart := false, narrowed := true }
def OpEncodesUptoSaid : Prop := opEncodesUptoRow.holds Try.pinned (OpenSpec.upto opEncodesSpec)

/-- 'satrapylaw10.OpDecodes', WHERE WHAT IT READS IS OF BULK AT MOST 1048576: true; the input reads as it did. -/
def opDecodesUptoRow : OpenClaim := { program := "ytliljfncbljfpaa", sum := "1f10cbde3a1ee8f5d8df0cb96ad7ccf1def5fb58a25f95afc4ffd6b72446f8db", func := "satrapy/satrapylaw10.OpDecodes", spec := "opDecodes", unfollowed := true, recurses := true, apart := false, narrowed := true }
def OpDecodesUptoSaid : Prop := opDecodesUptoRow.holds Try.pinned (OpenSpec.upto opDecodesSpec)

/-- 'satrapylaw10.OpReplies', WHERE WHAT IT READS IS OF BULK AT MOST 1048576: true; the input reads as it did. -/
def opRepliesUptoRow : OpenClaim := { program := "ytliljfncbljfpaa", sum := "1f10cbde3a1ee8f5d8df0cb96ad7ccf1def5fb58a25f95afc4ffd6b72446f8db", func := "satrapy/satrapylaw10.OpReplies", spec := "opReplies", unfollowed := true, recurses := true, apart := false, narrowed := true }
def OpRepliesUptoSaid : Prop := opRepliesUptoRow.holds Try.pinned (OpenSpec.upto opRepliesSpec)

/-- 'satrapylaw10.OpApart', WHERE WHAT IT READS IS OF BULK AT MOST 1048576: true; the input reads as it did. -/
def opApartUptoRow : OpenClaim := { program := "ytliljfncbljfpaa", sum := "1f10cbde3a1ee8f5d8df0cb96ad7ccf1def5fb58a25f95afc4ffd6b72446f8db", func := "satrapy/satrapylaw10.OpApart", spec := "opApart", unfollowed := true, recurses := true, apart := false, narrowed := true }
def OpApartUptoSaid : Prop := opApartUptoRow.holds Try.pinned (OpenSpec.upto opApartSpec)

/-- 'satrapylaw10.OpKinds', WHERE WHAT IT READS IS OF BULK AT MOST 1048576: true; the input reads as it did. -/
def opKindsUptoRow : OpenClaim := { program := "ytliljfncbljfpaa", sum := "1f10cbde3a1ee8f5d8df0cb96ad7ccf1def5fb58a25f95afc4ffd6b72446f8db", func := "satrapy/satrapylaw10.OpKinds", spec := "opKinds", unfollowed := true, recurses := true, apart := false, narrowed := true }
def OpKindsUptoSaid : Prop := opKindsUptoRow.holds Try.pinned (OpenSpec.upto opKindsSpec)

/-- 'satrapylaw21.PieceGoes', WHERE WHAT IT READS IS OF BULK AT MOST 1048576: true; the input reads as it did. -/
def pieceGoesUptoRow : OpenClaim := { program := "ytliljfncbljfpaa", sum := "1f10cbde3a1ee8f5d8df0cb96ad7ccf1def5fb58a25f95afc4ffd6b72446f8db", func := "satrapy/satrapylaw21.PieceGoes", spec := "pieceGoes", unfollowed := true, recurses := true, apart := false, narrowed := true }
def PieceGoesUptoSaid : Prop := pieceGoesUptoRow.holds Try.pinned (OpenSpec.upto pieceGoesSpec)

/-- 'satrapylaw21.PieceComes', WHERE WHAT IT READS IS OF BULK AT MOST 1048576: true; the input reads as it did. -/
def pieceComesUptoRow : OpenClaim := { program := "ytliljfncbljfpaa", sum := "1f10cbde3a1ee8f5d8df0cb96ad7ccf1def5fb58a25f95afc4ffd6b72446f8db", func := "satrapy/satrapylaw21.PieceComes", spec := "pieceComes", unfollowed := true, recurses := true, apart := false, narrowed := true }
def PieceComesUptoSaid : Prop := pieceComesUptoRow.holds Try.pinned (OpenSpec.upto pieceComesSpec)

/-- 'satrapylaw21.PieceAll', WHERE WHAT IT READS IS OF BULK AT MOST 1048576: true; the input reads as it did. -/
def pieceAllUptoRow : OpenClaim := { program := "ytliljfncbljfpaa", sum := "1f10cbde3a1ee8f5d8df0cb96ad7ccf1def5fb58a25f95afc4ffd6b72446f8db", func := "satrapy/satrapylaw21.PieceAll", spec := "pieceAll", unfollowed := true, recurses := true, apart := false, narrowed := true }
def PieceAllUptoSaid : Prop := pieceAllUptoRow.holds Try.pinned (OpenSpec.upto pieceAllSpec)

/-- 'satrapylaw21.PieceOfNothing', WHERE WHAT IT READS IS OF BULK AT MOST 1048576: true; the input reads as it did. -/
def pieceOfNothingUptoRow : OpenClaim := { program := "ytliljfncbljfpaa", sum := "1f10cbde3a1ee8f5d8df0cb96ad7ccf1def5fb58a25f95afc4ffd6b72446f8db", func := "satrapy/satrapylaw21.PieceOfNothing", spec := "pieceOfNothing", unfollowed := true, recurses := true, apart := false, narrowed := true }
def PieceOfNothingUptoSaid : Prop := pieceOfNothingUptoRow.holds Try.pinned (OpenSpec.upto pieceOfNothingSpec)

end Rows
end Go.Proofs.Ytliljfncbljfpaa
