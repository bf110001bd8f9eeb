/-
  No cell of these rows narrows 'for every input' (looked for: loops, veiled, ifaces, maps, wideKeys, modest, calm, conditions, laid).
  DERIVED. THE GIVEN ROWS OF THIS SEAT. 12 by the template 'for every input the law returns true; each argument reads behind the call as it read before'; 0 by the template 'total and deterministic' (their statements: YtbeebcocedmjkaaTotals.lean).
  GIVEN WITH THE SEED: the statements are not yours to turn. If you find one false, say at which input.
  Laid BY PROGRAM, IN A SANDBOX (cutbox-rows.mjs): the forced cells as the released guide's own fill.sh prints them over the translation ae5190a0f2e446a9… (all of the seat's roots in one cut). By AI agents, Wed Nov 11 2026. No macro, syntax, notation, axiom, sorry.
-/
import Derived.Test.YtbeebcocedmjkaaChecked
import GoSem.Claim
import GoSem.ClaimJoined
import GoSem.ClaimMapViews
import Derived.JoinedTies
import Derived.KernelRfl
namespace Go.Proofs.Ytbeebcocedmjkaa
/- THE CELL 'sum', in the pinned program and in every row, IS THE sha256 OF THE DUMP (.gsa) THAT YtbeebcocedmjkaaProg.lean LOADS. Nothing in Lean hashes anything: it is a label: what it is worth is what the hold of that sum in a sandbox is worth. -/
noncomputable def Try.pinned : Pinned := { name := "ytbeebcocedmjkaa", sum := "ae5190a0f2e446a94b4a133fb2110bb285ec5db5a66762cacacd994c4867b209", checked := Try.checked }
namespace Rows
def none {H : Type} : Left H := { results := [], args := [] }

/-- 'satrapylaw8.PurseOne': WHATEVER THE INPUT: true; the input reads as it did. -/
def purseOneSpec : ChangeSpec := { name := "purseOne", fn := fun _ => fun
  | [d1, d2, d3] => { results := [.lit (.bool true)], args := [d1, d2, d3] }
  | _ => none }
def purseOneRow : OpenClaim := { program := "ytbeebcocedmjkaa", sum := "ae5190a0f2e446a94b4a133fb2110bb285ec5db5a66762cacacd994c4867b209", func := "satrapy/satrapylaw8.PurseOne", spec := "purseOne", apart := false }
def PurseOneSaid : Prop := purseOneRow.holds Try.pinned (OpenSpec.ofChange purseOneSpec)

/-- ITS FALSE NEIGHBOUR: 'it returns false'. Refute it at one input. -/
def purseOneWrong : ChangeSpec := { name := "purseOne", fn := fun _ => fun
  | [d1, d2, d3] => { results := [.lit (.bool false)], args := [d1, d2, d3] }
  | _ => none }
def PurseOneWrongFalsely : Prop := purseOneRow.holds Try.pinned (OpenSpec.ofChange purseOneWrong)

/-- 'satrapylaw8.PurseAdds': WHATEVER THE INPUT: true; the input reads as it did. -/
def purseAddsSpec : ChangeSpec := { name := "purseAdds", fn := fun _ => fun
  | [d] => { results := [.lit (.bool true)], args := [d] }
  | _ => none }
def purseAddsRow : OpenClaim := { program := "ytbeebcocedmjkaa", sum := "ae5190a0f2e446a94b4a133fb2110bb285ec5db5a66762cacacd994c4867b209", func := "satrapy/satrapylaw8.PurseAdds", spec := "purseAdds", apart := false }
def PurseAddsSaid : Prop := purseAddsRow.holds Try.pinned (OpenSpec.ofChange purseAddsSpec)

/-- ITS FALSE NEIGHBOUR: 'it returns false'. Refute it at one input. -/
def purseAddsWrong : ChangeSpec := { name := "purseAdds", fn := fun _ => fun
  | [d] => { results := [.lit (.bool false)], args := [d] }
  | _ => none }
def PurseAddsWrongFalsely : Prop := purseAddsRow.holds Try.pinned (OpenSpec.ofChange purseAddsWrong)

/-- 'satrapylaw8.PurseSubs': WHATEVER THE INPUT: true; the input reads as it did. -/
def purseSubsSpec : ChangeSpec := { name := "purseSubs", fn := fun _ => fun
  | [d1, d2] => { results := [.lit (.bool true)], args := [d1, d2] }
  | _ => none }
def purseSubsRow : OpenClaim := { program := "ytbeebcocedmjkaa", sum := "ae5190a0f2e446a94b4a133fb2110bb285ec5db5a66762cacacd994c4867b209", func := "satrapy/satrapylaw8.PurseSubs", spec := "purseSubs", apart := false }
def PurseSubsSaid : Prop := purseSubsRow.holds Try.pinned (OpenSpec.ofChange purseSubsSpec)

/-- ITS FALSE NEIGHBOUR: 'it returns false'. Refute it at one input. -/
def purseSubsWrong : ChangeSpec := { name := "purseSubs", fn := fun _ => fun
  | [d1, d2] => { results := [.lit (.bool false)], args := [d1, d2] }
  | _ => none }
def PurseSubsWrongFalsely : Prop := purseSubsRow.holds Try.pinned (OpenSpec.ofChange purseSubsWrong)

/-- 'satrapylaw8.PurseBack': WHATEVER THE INPUT: true; the input reads as it did. -/
def purseBackSpec : ChangeSpec := { name := "purseBack", fn := fun _ => fun
  | [d1, d2] => { results := [.lit (.bool true)], args := [d1, d2] }
  | _ => none }
def purseBackRow : OpenClaim := { program := "ytbeebcocedmjkaa", sum := "ae5190a0f2e446a94b4a133fb2110bb285ec5db5a66762cacacd994c4867b209", func := "satrapy/satrapylaw8.PurseBack", spec := "purseBack", apart := false }
def PurseBackSaid : Prop := purseBackRow.holds Try.pinned (OpenSpec.ofChange purseBackSpec)

/-- ITS FALSE NEIGHBOUR: 'it returns false'. Refute it at one input. -/
def purseBackWrong : ChangeSpec := { name := "purseBack", fn := fun _ => fun
  | [d1, d2] => { results := [.lit (.bool false)], args := [d1, d2] }
  | _ => none }
def PurseBackWrongFalsely : Prop := purseBackRow.holds Try.pinned (OpenSpec.ofChange purseBackWrong)

/-- 'satrapylaw8.PurseBytes': WHATEVER THE INPUT: true; the input reads as it did. -/
def purseBytesSpec : ChangeSpec := { name := "purseBytes", fn := fun _ => fun
  | [d1, d2] => { results := [.lit (.bool true)], args := [d1, d2] }
  | _ => none }
def purseBytesRow : OpenClaim := { program := "ytbeebcocedmjkaa", sum := "ae5190a0f2e446a94b4a133fb2110bb285ec5db5a66762cacacd994c4867b209", func := "satrapy/satrapylaw8.PurseBytes", spec := "purseBytes", apart := false }
def PurseBytesSaid : Prop := purseBytesRow.holds Try.pinned (OpenSpec.ofChange purseBytesSpec)

/-- ITS FALSE NEIGHBOUR: 'it returns false'. Refute it at one input. -/
def purseBytesWrong : ChangeSpec := { name := "purseBytes", fn := fun _ => fun
  | [d1, d2] => { results := [.lit (.bool false)], args := [d1, d2] }
  | _ => none }
def PurseBytesWrongFalsely : Prop := purseBytesRow.holds Try.pinned (OpenSpec.ofChange purseBytesWrong)

/-- 'satrapylaw8.PurseLess': WHATEVER THE INPUT: true; the input reads as it did. -/
def purseLessSpec : ChangeSpec := { name := "purseLess", fn := fun _ => fun
  | [d1, d2] => { results := [.lit (.bool true)], args := [d1, d2] }
  | _ => none }
def purseLessRow : OpenClaim := { program := "ytbeebcocedmjkaa", sum := "ae5190a0f2e446a94b4a133fb2110bb285ec5db5a66762cacacd994c4867b209", func := "satrapy/satrapylaw8.PurseLess", spec := "purseLess", apart := false }
def PurseLessSaid : Prop := purseLessRow.holds Try.pinned (OpenSpec.ofChange purseLessSpec)

/-- ITS FALSE NEIGHBOUR: 'it returns false'. Refute it at one input. -/
def purseLessWrong : ChangeSpec := { name := "purseLess", fn := fun _ => fun
  | [d1, d2] => { results := [.lit (.bool false)], args := [d1, d2] }
  | _ => none }
def PurseLessWrongFalsely : Prop := purseLessRow.holds Try.pinned (OpenSpec.ofChange purseLessWrong)

/-- 'satrapylaw8.PurseRows': WHATEVER THE INPUT: true; the input reads as it did. -/
def purseRowsSpec : ChangeSpec := { name := "purseRows", fn := fun _ => fun
  | [d1, d2] => { results := [.lit (.bool true)], args := [d1, d2] }
  | _ => none }
def purseRowsRow : OpenClaim := { program := "ytbeebcocedmjkaa", sum := "ae5190a0f2e446a94b4a133fb2110bb285ec5db5a66762cacacd994c4867b209", func := "satrapy/satrapylaw8.PurseRows", spec := "purseRows", apart := false }
def PurseRowsSaid : Prop := purseRowsRow.holds Try.pinned (OpenSpec.ofChange purseRowsSpec)

/-- ITS FALSE NEIGHBOUR: 'it returns false'. Refute it at one input. -/
def purseRowsWrong : ChangeSpec := { name := "purseRows", fn := fun _ => fun
  | [d1, d2] => { results := [.lit (.bool false)], args := [d1, d2] }
  | _ => none }
def PurseRowsWrongFalsely : Prop := purseRowsRow.holds Try.pinned (OpenSpec.ofChange purseRowsWrong)

/-- 'satrapylaw12.SpanKeys': WHATEVER THE INPUT: true; the input reads as it did. -/
def spanKeysSpec : ChangeSpec := { name := "spanKeys", fn := fun _ => fun
  | [d1, d2] => { results := [.lit (.bool true)], args := [d1, d2] }
  | _ => none }
def spanKeysRow : OpenClaim := { program := "ytbeebcocedmjkaa", sum := "ae5190a0f2e446a94b4a133fb2110bb285ec5db5a66762cacacd994c4867b209", func := "satrapy/satrapylaw12.SpanKeys", spec := "spanKeys", apart := false }
def SpanKeysSaid : Prop := spanKeysRow.holds Try.pinned (OpenSpec.ofChange spanKeysSpec)

/-- ITS FALSE NEIGHBOUR: 'it returns false'. Refute it at one input. -/
def spanKeysWrong : ChangeSpec := { name := "spanKeys", fn := fun _ => fun
  | [d1, d2] => { results := [.lit (.bool false)], args := [d1, d2] }
  | _ => none }
def SpanKeysWrongFalsely : Prop := spanKeysRow.holds Try.pinned (OpenSpec.ofChange spanKeysWrong)

/-- 'satrapylaw12.SpanTwo': WHATEVER THE INPUT: true; the input reads as it did. -/
def spanTwoSpec : ChangeSpec := { name := "spanTwo", fn := fun _ => fun
  | [d1, d2] => { results := [.lit (.bool true)], args := [d1, d2] }
  | _ => none }
def spanTwoRow : OpenClaim := { program := "ytbeebcocedmjkaa", sum := "ae5190a0f2e446a94b4a133fb2110bb285ec5db5a66762cacacd994c4867b209", func := "satrapy/satrapylaw12.SpanTwo", spec := "spanTwo", apart := false }
def SpanTwoSaid : Prop := spanTwoRow.holds Try.pinned (OpenSpec.ofChange spanTwoSpec)

/-- ITS FALSE NEIGHBOUR: 'it returns false'. Refute it at one input. -/
def spanTwoWrong : ChangeSpec := { name := "spanTwo", fn := fun _ => fun
  | [d1, d2] => { results := [.lit (.bool false)], args := [d1, d2] }
  | _ => none }
def SpanTwoWrongFalsely : Prop := spanTwoRow.holds Try.pinned (OpenSpec.ofChange spanTwoWrong)

/-- 'satrapylaw12.SpanAll': WHATEVER THE INPUT: true; the input reads as it did. -/
def spanAllSpec : ChangeSpec := { name := "spanAll", fn := fun _ => fun
  | [d] => { results := [.lit (.bool true)], args := [d] }
  | _ => none }
def spanAllRow : OpenClaim := { program := "ytbeebcocedmjkaa", sum := "ae5190a0f2e446a94b4a133fb2110bb285ec5db5a66762cacacd994c4867b209", func := "satrapy/satrapylaw12.SpanAll", spec := "spanAll", apart := false }
def SpanAllSaid : Prop := spanAllRow.holds Try.pinned (OpenSpec.ofChange spanAllSpec)

/-- ITS FALSE NEIGHBOUR: 'it returns false'. Refute it at one input. -/
def spanAllWrong : ChangeSpec := { name := "spanAll", fn := fun _ => fun
  | [d] => { results := [.lit (.bool false)], args := [d] }
  | _ => none }
def SpanAllWrongFalsely : Prop := spanAllRow.holds Try.pinned (OpenSpec.ofChange spanAllWrong)

/-- 'satrapylaw12.SpanBack': WHATEVER THE INPUT: true; the input reads as it did. -/
def spanBackSpec : ChangeSpec := { name := "spanBack", fn := fun _ => fun
  | [d1, d2, d3] => { results := [.lit (.bool true)], args := [d1, d2, d3] }
  | _ => none }
def spanBackRow : OpenClaim := { program := "ytbeebcocedmjkaa", sum := "ae5190a0f2e446a94b4a133fb2110bb285ec5db5a66762cacacd994c4867b209", func := "satrapy/satrapylaw12.SpanBack", spec := "spanBack", apart := false }
def SpanBackSaid : Prop := spanBackRow.holds Try.pinned (OpenSpec.ofChange spanBackSpec)

/-- ITS FALSE NEIGHBOUR: 'it returns false'. Refute it at one input. -/
def spanBackWrong : ChangeSpec := { name := "spanBack", fn := fun _ => fun
  | [d1, d2, d3] => { results := [.lit (.bool false)], args := [d1, d2, d3] }
  | _ => none }
def SpanBackWrongFalsely : Prop := spanBackRow.holds Try.pinned (OpenSpec.ofChange spanBackWrong)

/-- 'satrapylaw12.SpanParts': WHATEVER THE INPUT: true; the input reads as it did. -/
def spanPartsSpec : ChangeSpec := { name := "spanParts", fn := fun _ => fun
  | [d1, d2] => { results := [.lit (.bool true)], args := [d1, d2] }
  | _ => none }
def spanPartsRow : OpenClaim := { program := "ytbeebcocedmjkaa", sum := "ae5190a0f2e446a94b4a133fb2110bb285ec5db5a66762cacacd994c4867b209", func := "satrapy/satrapylaw12.SpanParts", spec := "spanParts", apart := false }
def SpanPartsSaid : Prop := spanPartsRow.holds Try.pinned (OpenSpec.ofChange spanPartsSpec)

/-- ITS FALSE NEIGHBOUR: 'it returns false'. Refute it at one input. -/
def spanPartsWrong : ChangeSpec := { name := "spanParts", fn := fun _ => fun
  | [d1, d2] => { results := [.lit (.bool false)], args := [d1, d2] }
  | _ => none }
def SpanPartsWrongFalsely : Prop := spanPartsRow.holds Try.pinned (OpenSpec.ofChange spanPartsWrong)

/- THE SECOND FORM. 'bulk': how many values and letters a reading holds, each counted each time it is reached (what is shared counts as often as it is met; a slice's spare places count too). A statement '..UptoSaid' is the law's where the arguments, and the package variables that the reading takes, are together of bulk at most 1048576: NARROWER than '..Said'. Prove '..Said' where nothing that the law and all that it calls make is longer than what came in: it says more and counts as full. Else prove '..UptoSaid'. A law counts once. -/
mutual
def uptoBulk {H : Type} : DataW H → Nat
  | .lit (.string bytes) => bytes.length + 1
  | .lit _ => 1
  | .nil => 1
  | .ptr d => uptoBulk d + 1
  | .slice elems spare => uptoBulkAll elems + uptoBulkAll spare + 1
  | .agg parts => uptoBulkAll parts + 1
  | .iface _ d => uptoBulk d + 1
  | .map entries => uptoBulkEntries entries + 1
  | .held _ => 1
def uptoBulkAll {H : Type} : List (DataW H) → Nat
  | [] => 0
  | d :: r => uptoBulk d + uptoBulkAll r
def uptoBulkEntries {H : Type} : List (Lit × DataW H) → Nat
  | [] => 0
  | x :: r => uptoBulkEntry x + uptoBulkEntries r
def uptoBulkEntry {H : Type} : Lit × DataW H → Nat
  | (.string bytes, d) => bytes.length + uptoBulk d + 1
  | (_, d) => uptoBulk d + 1
 end
def uptoSmall : (H : Type) → List (DataW H) → Bool := fun _ ds => decide (uptoBulkAll ds ≤ 1048576)
def OpenSpec.upto (s : _root_.Go.ChangeSpec) : _root_.Go.OpenSpec := { _root_.Go.OpenSpec.ofChange s with cond := some uptoSmall }

/-- 'satrapylaw8.PurseOne', WHERE WHAT IT READS IS OF BULK AT MOST 1048576: true; the input reads as it did. -/
def purseOneUptoRow : OpenClaim := { program := "ytbeebcocedmjkaa", sum := "ae5190a0f2e446a94b4a133fb2110bb285ec5db5a66762cacacd994c4867b209", func := "satrapy/satrapylaw8.PurseOne", spec := "purseOne", apart := false, narrowed := true }
def PurseOneUptoSaid : Prop := purseOneUptoRow.holds Try.pinned (OpenSpec.upto purseOneSpec)

/-- 'satrapylaw8.PurseAdds', WHERE WHAT IT READS IS OF BULK AT MOST 1048576: true; the input reads as it did. -/
def purseAddsUptoRow : OpenClaim := { program := "ytbeebcocedmjkaa", sum := "ae5190a0f2e446a94b4a133fb2110bb285ec5db5a66762cacacd994c4867b209", func := "satrapy/satrapylaw8.PurseAdds", spec := "purseAdds", apart := false, narrowed := true }
def PurseAddsUptoSaid : Prop := purseAddsUptoRow.holds Try.pinned (OpenSpec.upto purseAddsSpec)

/-- 'satrapylaw8.PurseSubs', WHERE WHAT IT READS IS OF BULK AT MOST 1048576: true; the input reads as it did. -/
def purseSubsUptoRow : OpenClaim := { program := "ytbeebcocedmjkaa", sum := "ae5190a0f2e446a94b4a133fb2110bb285ec5db5a66762cacacd994c4867b209", func := "satrapy/satrapylaw8.PurseSubs", spec := "purseSubs", apart := false, narrowed := true }
def PurseSubsUptoSaid : Prop := purseSubsUptoRow.holds Try.pinned (OpenSpec.upto purseSubsSpec)

/-- 'satrapylaw8.PurseBack', WHERE WHAT IT READS IS OF BULK AT MOST 1048576: true; the input reads as it did. -/
def purseBackUptoRow : OpenClaim := { program := "ytbeebcocedmjkaa", sum := "ae5190a0f2e446a94b4a133fb2110bb285ec5db5a66762cacacd994c4867b209", func := "satrapy/satrapylaw8.PurseBack", spec := "purseBack", apart := false, narrowed := true }
def PurseBackUptoSaid : Prop := purseBackUptoRow.holds Try.pinned (OpenSpec.upto purseBackSpec)

/-- 'satrapylaw8.PurseBytes', WHERE WHAT IT READS IS OF BULK AT MOST 1048576: true; the input reads as it did. -/
def purseBytesUptoRow : OpenClaim := { program := "ytbeebcocedmjkaa", sum := "ae5190a0f2e446a94b4a133fb2110bb285ec5db5a66762cacacd994c4867b209", func := "satrapy/satrapylaw8.PurseBytes", spec := "purseBytes", apart := false, narrowed := true }
def PurseBytesUptoSaid : Prop := purseBytesUptoRow.holds Try.pinned (OpenSpec.upto purseBytesSpec)

/-- 'satrapylaw8.PurseLess', WHERE WHAT IT READS IS OF BULK AT MOST 1048576: true; the input reads as it did. -/
def purseLessUptoRow : OpenClaim := { program := "ytbeebcocedmjkaa", sum := "ae5190a0f2e446a94b4a133fb2110bb285ec5db5a66762cacacd994c4867b209", func := "satrapy/satrapylaw8.PurseLess", spec := "purseLess", apart := false, narrowed := true }
def PurseLessUptoSaid : Prop := purseLessUptoRow.holds Try.pinned (OpenSpec.upto purseLessSpec)

/-- 'satrapylaw8.PurseRows', WHERE WHAT IT READS IS OF BULK AT MOST 1048576: true; the input reads as it did. -/
def purseRowsUptoRow : OpenClaim := { program := "ytbeebcocedmjkaa", sum := "ae5190a0f2e446a94b4a133fb2110bb285ec5db5a66762cacacd994c4867b209", func := "satrapy/satrapylaw8.PurseRows", spec := "purseRows", apart := false, narrowed := true }
def PurseRowsUptoSaid : Prop := purseRowsUptoRow.holds Try.pinned (OpenSpec.upto purseRowsSpec)

/-- 'satrapylaw12.SpanKeys', WHERE WHAT IT READS IS OF BULK AT MOST 1048576: true; the input reads as it did. -/
def spanKeysUptoRow : OpenClaim := { program := "ytbeebcocedmjkaa", sum := "ae5190a0f2e446a94b4a133fb2110bb285ec5db5a66762cacacd994c4867b209", func := "satrapy/satrapylaw12.SpanKeys", spec := "spanKeys", apart := false, narrowed := true }
def SpanKeysUptoSaid : Prop := spanKeysUptoRow.holds Try.pinned (OpenSpec.upto spanKeysSpec)

/-- 'satrapylaw12.SpanTwo', WHERE WHAT IT READS IS OF BULK AT MOST 1048576: true; the input reads as it did. -/
def spanTwoUptoRow : OpenClaim := { program := "ytbeebcocedmjkaa", sum := "ae5190a0f2e446a94b4a133fb2110bb285ec5db5a66762cacacd994c4867b209", func := "satrapy/satrapylaw12.SpanTwo", spec := "spanTwo", apart := false, narrowed := true }
def SpanTwoUptoSaid : Prop := spanTwoUptoRow.holds Try.pinned (OpenSpec.upto spanTwoSpec)

/-- 'satrapylaw12.SpanAll', WHERE WHAT IT READS IS OF BULK AT MOST 1048576: true; the input reads as it did. -/
def spanAllUptoRow : OpenClaim := { program := "ytbeebcocedmjkaa", sum := "ae5190a0f2e446a94b4a133fb2110bb285ec5db5a66762cacacd994c4867b209", func := "satrapy/satrapylaw12.SpanAll", spec := "spanAll", apart := false, narrowed := true }
def SpanAllUptoSaid : Prop := spanAllUptoRow.holds Try.pinned (OpenSpec.upto spanAllSpec)

/-- 'satrapylaw12.SpanBack', WHERE WHAT IT READS IS OF BULK AT MOST 1048576: true; the input reads as it did. -/
def spanBackUptoRow : OpenClaim := { program := "ytbeebcocedmjkaa", sum := "ae5190a0f2e446a94b4a133fb2110bb285ec5db5a66762cacacd994c4867b209", func := "satrapy/satrapylaw12.SpanBack", spec := "spanBack", apart := false, narrowed := true }
def SpanBackUptoSaid : Prop := spanBackUptoRow.holds Try.pinned (OpenSpec.upto spanBackSpec)

/-- 'satrapylaw12.SpanParts', WHERE WHAT IT READS IS OF BULK AT MOST 1048576: true; the input reads as it did. -/
def spanPartsUptoRow : OpenClaim := { program := "ytbeebcocedmjkaa", sum := "ae5190a0f2e446a94b4a133fb2110bb285ec5db5a66762cacacd994c4867b209", func := "satrapy/satrapylaw12.SpanParts", spec := "spanParts", apart := false, narrowed := true }
def SpanPartsUptoSaid : Prop := spanPartsUptoRow.holds Try.pinned (OpenSpec.upto spanPartsSpec)

end Rows
end Go.Proofs.Ytbeebcocedmjkaa
