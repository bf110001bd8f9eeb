/-
  No cell of these rows narrows 'for every input' (looked for: loops, veiled, ifaces, maps, wideKeys, modest, calm, conditions, laid).
  DERIVED. THE GIVEN ROWS OF THIS SEAT. 6 by the template 'for every input the law returns true; each argument reads behind the call as it read before'; 0 by the template 'total and deterministic' (their statements: YtbohpjinkdffhaaTotals.lean).
  GIVEN WITH THE SEED: the statements are not yours to turn. If you find one false, say at which input.
  Laid BY PROGRAM, IN A SANDBOX (cutbox-rows.mjs): the forced cells as the released guide's own fill.sh prints them over the translation 28e5591d74fa595d… (all of the seat's roots in one cut). By AI agents, Wed Nov 11 2026. No macro, syntax, notation, axiom, sorry.
-/
import Derived.Test.YtbohpjinkdffhaaChecked
import GoSem.Claim
import GoSem.ClaimJoined
import GoSem.ClaimMapViews
import Derived.JoinedTies
import Derived.KernelRfl
namespace Go.Proofs.Ytbohpjinkdffhaa
/- THE CELL 'sum', in the pinned program and in every row, IS THE sha256 OF THE DUMP (.gsa) THAT YtbohpjinkdffhaaProg.lean LOADS. Nothing in Lean hashes anything: it is a label: what it is worth is what the hold of that sum in a sandbox is worth. -/
noncomputable def Try.pinned : Pinned := { name := "ytbohpjinkdffhaa", sum := "28e5591d74fa595dbb0986fdccd326905593265e5a4a8a3bdc0f1f14d3a1c250", checked := Try.checked }
namespace Rows
def none {H : Type} : Left H := { results := [], args := [] }

/-- 'satrapylaw16.DirPlays': WHATEVER THE INPUT: true; the input reads as it did. -/
def dirPlaysSpec : ChangeSpec := { name := "dirPlays", fn := fun _ => fun
  | [d1, d2] => { results := [.lit (.bool true)], args := [d1, d2] }
  | _ => none }
def dirPlaysRow : OpenClaim := { program := "ytbohpjinkdffhaa", sum := "28e5591d74fa595dbb0986fdccd326905593265e5a4a8a3bdc0f1f14d3a1c250", func := "satrapy/satrapylaw16.DirPlays", spec := "dirPlays", inPlace := ["slices.overlaps[satrapy/api.Zone]"], unfollowed := true, recurses := true, apart := false }
def DirPlaysSaid : Prop := dirPlaysRow.holds Try.pinned (OpenSpec.ofChange dirPlaysSpec)

/-- ITS FALSE NEIGHBOUR: 'it returns false'. Refute it at one input. -/
def dirPlaysWrong : ChangeSpec := { name := "dirPlays", fn := fun _ => fun
  | [d1, d2] => { results := [.lit (.bool false)], args := [d1, d2] }
  | _ => none }
def DirPlaysWrongFalsely : Prop := dirPlaysRow.holds Try.pinned (OpenSpec.ofChange dirPlaysWrong)

/-- 'satrapylaw16.DirParts': WHATEVER THE INPUT: true; the input reads as it did. -/
def dirPartsSpec : ChangeSpec := { name := "dirParts", fn := fun _ => fun
  | [d1, d2] => { results := [.lit (.bool true)], args := [d1, d2] }
  | _ => none }
def dirPartsRow : OpenClaim := { program := "ytbohpjinkdffhaa", sum := "28e5591d74fa595dbb0986fdccd326905593265e5a4a8a3bdc0f1f14d3a1c250", func := "satrapy/satrapylaw16.DirParts", spec := "dirParts", inPlace := ["slices.overlaps[satrapy/api.Zone]"], unfollowed := true, recurses := true, apart := false }
def DirPartsSaid : Prop := dirPartsRow.holds Try.pinned (OpenSpec.ofChange dirPartsSpec)

/-- ITS FALSE NEIGHBOUR: 'it returns false'. Refute it at one input. -/
def dirPartsWrong : ChangeSpec := { name := "dirParts", fn := fun _ => fun
  | [d1, d2] => { results := [.lit (.bool false)], args := [d1, d2] }
  | _ => none }
def DirPartsWrongFalsely : Prop := dirPartsRow.holds Try.pinned (OpenSpec.ofChange dirPartsWrong)

/-- 'satrapylaw16.DirOnce': WHATEVER THE INPUT: true; the input reads as it did. -/
def dirOnceSpec : ChangeSpec := { name := "dirOnce", fn := fun _ => fun
  | [d1, d2] => { results := [.lit (.bool true)], args := [d1, d2] }
  | _ => none }
def dirOnceRow : OpenClaim := { program := "ytbohpjinkdffhaa", sum := "28e5591d74fa595dbb0986fdccd326905593265e5a4a8a3bdc0f1f14d3a1c250", func := "satrapy/satrapylaw16.DirOnce", spec := "dirOnce", inPlace := ["slices.overlaps[satrapy/api.Zone]"], unfollowed := true, recurses := true, apart := false }
def DirOnceSaid : Prop := dirOnceRow.holds Try.pinned (OpenSpec.ofChange dirOnceSpec)

/-- ITS FALSE NEIGHBOUR: 'it returns false'. Refute it at one input. -/
def dirOnceWrong : ChangeSpec := { name := "dirOnce", fn := fun _ => fun
  | [d1, d2] => { results := [.lit (.bool false)], args := [d1, d2] }
  | _ => none }
def DirOnceWrongFalsely : Prop := dirOnceRow.holds Try.pinned (OpenSpec.ofChange dirOnceWrong)

/-- 'satrapylaw16.DirBytes': WHATEVER THE INPUT: true; the input reads as it did. -/
def dirBytesSpec : ChangeSpec := { name := "dirBytes", fn := fun _ => fun
  | [d1, d2, d3] => { results := [.lit (.bool true)], args := [d1, d2, d3] }
  | _ => none }
def dirBytesRow : OpenClaim := { program := "ytbohpjinkdffhaa", sum := "28e5591d74fa595dbb0986fdccd326905593265e5a4a8a3bdc0f1f14d3a1c250", func := "satrapy/satrapylaw16.DirBytes", spec := "dirBytes", inPlace := ["slices.overlaps[satrapy/api.Zone]"], unfollowed := true, recurses := true, apart := false }
def DirBytesSaid : Prop := dirBytesRow.holds Try.pinned (OpenSpec.ofChange dirBytesSpec)

/-- ITS FALSE NEIGHBOUR: 'it returns false'. Refute it at one input. -/
def dirBytesWrong : ChangeSpec := { name := "dirBytes", fn := fun _ => fun
  | [d1, d2, d3] => { results := [.lit (.bool false)], args := [d1, d2, d3] }
  | _ => none }
def DirBytesWrongFalsely : Prop := dirBytesRow.holds Try.pinned (OpenSpec.ofChange dirBytesWrong)

/-- 'satrapylaw16.DirEpochs': WHATEVER THE INPUT: true; the input reads as it did. -/
def dirEpochsSpec : ChangeSpec := { name := "dirEpochs", fn := fun _ => fun
  | [d] => { results := [.lit (.bool true)], args := [d] }
  | _ => none }
def dirEpochsRow : OpenClaim := { program := "ytbohpjinkdffhaa", sum := "28e5591d74fa595dbb0986fdccd326905593265e5a4a8a3bdc0f1f14d3a1c250", func := "satrapy/satrapylaw16.DirEpochs", spec := "dirEpochs", inPlace := ["slices.overlaps[satrapy/api.Zone]"], unfollowed := true, recurses := true, apart := false }
def DirEpochsSaid : Prop := dirEpochsRow.holds Try.pinned (OpenSpec.ofChange dirEpochsSpec)

/-- ITS FALSE NEIGHBOUR: 'it returns false'. Refute it at one input. -/
def dirEpochsWrong : ChangeSpec := { name := "dirEpochs", fn := fun _ => fun
  | [d] => { results := [.lit (.bool false)], args := [d] }
  | _ => none }
def DirEpochsWrongFalsely : Prop := dirEpochsRow.holds Try.pinned (OpenSpec.ofChange dirEpochsWrong)

/-- 'satrapylaw16.DirMoves': WHATEVER THE INPUT: true; the input reads as it did. -/
def dirMovesSpec : ChangeSpec := { name := "dirMoves", fn := fun _ => fun
  | [d] => { results := [.lit (.bool true)], args := [d] }
  | _ => none }
def dirMovesRow : OpenClaim := { program := "ytbohpjinkdffhaa", sum := "28e5591d74fa595dbb0986fdccd326905593265e5a4a8a3bdc0f1f14d3a1c250", func := "satrapy/satrapylaw16.DirMoves", spec := "dirMoves", inPlace := ["slices.overlaps[satrapy/api.Zone]"], unfollowed := true, recurses := true, apart := false }
def DirMovesSaid : Prop := dirMovesRow.holds Try.pinned (OpenSpec.ofChange dirMovesSpec)

/-- ITS FALSE NEIGHBOUR: 'it returns false'. Refute it at one input. -/
def dirMovesWrong : ChangeSpec := { name := "dirMoves", fn := fun _ => fun
  | [d] => { results := [.lit (.bool false)], args := [d] }
  | _ => none }
def DirMovesWrongFalsely : Prop := dirMovesRow.holds Try.pinned (OpenSpec.ofChange dirMovesWrong)

/- THE SECOND FORM. 'bulk': how many values and letters a reading holds, each counted each time it is reached (what is shared counts as often as it is met; a slice's spare places count too). A statement '..UptoSaid' is the law's where the arguments, and the package variables that the reading takes, are together of bulk at most 1048576: NARROWER than '..Said'. Prove '..Said' where nothing that the law and all that it calls make is longer than what came in: it says more and counts as full. Else prove '..UptoSaid'. A law counts once. -/
mutual
def uptoBulk {H : Type} : DataW H → Nat
  | .lit (.string bytes) => bytes.length + 1
  | .lit _ => 1
  | .nil => 1
  | .ptr d => uptoBulk d + 1
  | .slice elems spare => uptoBulkAll elems + uptoBulkAll spare + 1
  | .agg parts => uptoBulkAll parts + 1
  | .iface _ d => uptoBulk d + 1
  | .map entries => uptoBulkEntries entries + 1
  | .held _ => 1
def uptoBulkAll {H : Type} : List (DataW H) → Nat
  | [] => 0
  | d :: r => uptoBulk d + uptoBulkAll r
def uptoBulkEntries {H : Type} : List (Lit × DataW H) → Nat
  | [] => 0
  | x :: r => uptoBulkEntry x + uptoBulkEntries r
def uptoBulkEntry {H : Type} : Lit × DataW H → Nat
  | (.string bytes, d) => bytes.length + uptoBulk d + 1
  | (_, d) => uptoBulk d + 1
 end
def uptoSmall : (H : Type) → List (DataW H) → Bool := fun _ ds => decide (uptoBulkAll ds ≤ 1048576)
def OpenSpec.upto (s : _root_.Go.ChangeSpec) : _root_.Go.OpenSpec := { _root_.Go.OpenSpec.ofChange s with cond := some uptoSmall }

/-- 'satrapylaw16.DirPlays', WHERE WHAT IT READS IS OF BULK AT MOST 1048576: true; the input reads as it did. -/
def dirPlaysUptoRow : OpenClaim := { program := "ytbohpjinkdffhaa", sum := "28e5591d74fa595dbb0986fdccd326905593265e5a4a8a3bdc0f1f14d3a1c250", func := "satrapy/satrapylaw16.DirPlays", spec := "dirPlays", inPlace := ["slices.overlaps[satrapy/api.Zone]"], unfollowed := true, recurses := true, apart := false, narrowed := true }
def DirPlaysUptoSaid : Prop := dirPlaysUptoRow.holds Try.pinned (OpenSpec.upto dirPlaysSpec)

/-- 'satrapylaw16.DirParts', WHERE WHAT IT READS IS OF BULK AT MOST 1048576: true; the input reads as it did. -/
def dirPartsUptoRow : OpenClaim := { program := "ytbohpjinkdffhaa", sum := "28e5591d74fa595dbb0986fdccd326905593265e5a4a8a3bdc0f1f14d3a1c250", func := "satrapy/satrapylaw16.DirParts", spec := "dirParts", inPlace := ["slices.overlaps[satrapy/api.Zone]"], unfollowed := true, recurses := true, apart := false, narrowed := true }
def DirPartsUptoSaid : Prop := dirPartsUptoRow.holds Try.pinned (OpenSpec.upto dirPartsSpec)

/-- 'satrapylaw16.DirOnce', WHERE WHAT IT READS IS OF BULK AT MOST 1048576: true; the input reads as it did. -/
def dirOnceUptoRow : OpenClaim := { program := "ytbohpjinkdffhaa", sum := "28e5591d74fa595dbb0986fdccd326905593265e5a4a8a3bdc0f1f14d3a1c250", func := "satrapy/satrapylaw16.DirOnce", spec := "dirOnce", inPlace := ["slices.overlaps[satrapy/api.Zone]"], unfollowed := true, recurses := true, apart := false, narrowed := true }
def DirOnceUptoSaid : Prop := dirOnceUptoRow.holds Try.pinned (OpenSpec.upto dirOnceSpec)

/-- 'satrapylaw16.DirBytes', WHERE WHAT IT READS IS OF BULK AT MOST 1048576: true; the input reads as it did. -/
def dirBytesUptoRow : OpenClaim := { program := "ytbohpjinkdffhaa", sum := "28e5591d74fa595dbb0986fdccd326905593265e5a4a8a3bdc0f1f14d3a1c250", func := "satrapy/satrapylaw16.DirBytes", spec := "dirBytes", inPlace := ["slices.overlaps[satrapy/api.Zone]"], unfollowed := true, recurses := true, apart := false, narrowed := true }
def DirBytesUptoSaid : Prop := dirBytesUptoRow.holds Try.pinned (OpenSpec.upto dirBytesSpec)

/-- 'satrapylaw16.DirEpochs', WHERE WHAT IT READS IS OF BULK AT MOST 1048576: true; the input reads as it did. -/
def dirEpochsUptoRow : OpenClaim := { program := "ytbohpjinkdffhaa", sum := "28e5591d74fa595dbb0986fdccd326905593265e5a4a8a3bdc0f1f14d3a1c250", func := "satrapy/satrapylaw16.DirEpochs", spec := "dirEpochs", inPlace := ["slices.overlaps[satrapy/api.Zone]"], unfollowed := true, recurses := true, apart := false, narrowed := true }
def DirEpochsUptoSaid : Prop := dirEpochsUptoRow.holds Try.pinned (OpenSpec.upto dirEpochsSpec)

/-- 'satrapylaw16.DirMoves', WHERE WHAT IT READS IS OF BULK AT MOST 1048576: true; the input reads as it did. -/
def dirMovesUptoRow : OpenClaim := { program := "ytbohpjinkdffhaa", sum := "28e5591d74fa595dbb0986fdccd326905593265e5a4a8a3bdc0f1f14d3a1c250", func := "satrapy/satrapylaw16.DirMoves", spec := "dirMoves", inPlace := ["slices.overlaps[satrapy/api.Zone]"], unfollowed := true, recurses := true, apart := false, narrowed := true }
def DirMovesUptoSaid : Prop := dirMovesUptoRow.holds Try.pinned (OpenSpec.upto dirMovesSpec)

end Rows
end Go.Proofs.Ytbohpjinkdffhaa
