/-
  No cell of these rows narrows 'for every input' (looked for: loops, veiled, ifaces, maps, wideKeys, modest, calm, conditions, laid).
  DERIVED. THE GIVEN ROWS OF THIS SEAT. 7 by the template 'for every input the law returns true; each argument reads behind the call as it read before'; 0 by the template 'total and deterministic' (their statements: YtekelnkjigaofaaTotals.lean).
  GIVEN WITH THE SEED: the statements are not yours to turn. If you find one false, say at which input.
  Laid BY PROGRAM, IN A SANDBOX (cutbox-rows.mjs): the forced cells as the released guide's own fill.sh prints them over the translation 66fff5a6ac4dc069… (all of the seat's roots in one cut). By AI agents, Wed Nov 11 2026. No macro, syntax, notation, axiom, sorry.
-/
import Derived.Test.YtekelnkjigaofaaChecked
import GoSem.Claim
import GoSem.ClaimJoined
import GoSem.ClaimMapViews
import Derived.JoinedTies
import Derived.KernelRfl
namespace Go.Proofs.Ytekelnkjigaofaa
/- THE CELL 'sum', in the pinned program and in every row, IS THE sha256 OF THE DUMP (.gsa) THAT YtekelnkjigaofaaProg.lean LOADS. Nothing in Lean hashes anything: it is a label: what it is worth is what the hold of that sum in a sandbox is worth. -/
noncomputable def Try.pinned : Pinned := { name := "ytekelnkjigaofaa", sum := "66fff5a6ac4dc069251ee50bd33339058583a47a1efd2e75c1a5ae6950183b46", checked := Try.checked }
namespace Rows
def none {H : Type} : Left H := { results := [], args := [] }

/-- 'satrapylaw9.BookPlays': WHATEVER THE INPUT: true; the input reads as it did. -/
def bookPlaysSpec : ChangeSpec := { name := "bookPlays", fn := fun _ => fun
  | [d] => { results := [.lit (.bool true)], args := [d] }
  | _ => none }
def bookPlaysRow : OpenClaim := { program := "ytekelnkjigaofaa", sum := "66fff5a6ac4dc069251ee50bd33339058583a47a1efd2e75c1a5ae6950183b46", func := "satrapy/satrapylaw9.BookPlays", spec := "bookPlays", unfollowed := true, recurses := true, apart := false }
def BookPlaysSaid : Prop := bookPlaysRow.holds Try.pinned (OpenSpec.ofChange bookPlaysSpec)

/-- ITS FALSE NEIGHBOUR: 'it returns false'. Refute it at one input. -/
def bookPlaysWrong : ChangeSpec := { name := "bookPlays", fn := fun _ => fun
  | [d] => { results := [.lit (.bool false)], args := [d] }
  | _ => none }
def BookPlaysWrongFalsely : Prop := bookPlaysRow.holds Try.pinned (OpenSpec.ofChange bookPlaysWrong)

/-- 'satrapylaw9.BookOf': WHATEVER THE INPUT: true; the input reads as it did. -/
def bookOfSpec : ChangeSpec := { name := "bookOf", fn := fun _ => fun
  | [d1, d2] => { results := [.lit (.bool true)], args := [d1, d2] }
  | _ => none }
def bookOfRow : OpenClaim := { program := "ytekelnkjigaofaa", sum := "66fff5a6ac4dc069251ee50bd33339058583a47a1efd2e75c1a5ae6950183b46", func := "satrapy/satrapylaw9.BookOf", spec := "bookOf", unfollowed := true, recurses := true, apart := false }
def BookOfSaid : Prop := bookOfRow.holds Try.pinned (OpenSpec.ofChange bookOfSpec)

/-- ITS FALSE NEIGHBOUR: 'it returns false'. Refute it at one input. -/
def bookOfWrong : ChangeSpec := { name := "bookOf", fn := fun _ => fun
  | [d1, d2] => { results := [.lit (.bool false)], args := [d1, d2] }
  | _ => none }
def BookOfWrongFalsely : Prop := bookOfRow.holds Try.pinned (OpenSpec.ofChange bookOfWrong)

/-- 'satrapylaw9.BookApart': WHATEVER THE INPUT: true; the input reads as it did. -/
def bookApartSpec : ChangeSpec := { name := "bookApart", fn := fun _ => fun
  | [d] => { results := [.lit (.bool true)], args := [d] }
  | _ => none }
def bookApartRow : OpenClaim := { program := "ytekelnkjigaofaa", sum := "66fff5a6ac4dc069251ee50bd33339058583a47a1efd2e75c1a5ae6950183b46", func := "satrapy/satrapylaw9.BookApart", spec := "bookApart", unfollowed := true, recurses := true, apart := false }
def BookApartSaid : Prop := bookApartRow.holds Try.pinned (OpenSpec.ofChange bookApartSpec)

/-- ITS FALSE NEIGHBOUR: 'it returns false'. Refute it at one input. -/
def bookApartWrong : ChangeSpec := { name := "bookApart", fn := fun _ => fun
  | [d] => { results := [.lit (.bool false)], args := [d] }
  | _ => none }
def BookApartWrongFalsely : Prop := bookApartRow.holds Try.pinned (OpenSpec.ofChange bookApartWrong)

/-- 'satrapylaw9.BookSums': WHATEVER THE INPUT: true; the input reads as it did. -/
def bookSumsSpec : ChangeSpec := { name := "bookSums", fn := fun _ => fun
  | [d] => { results := [.lit (.bool true)], args := [d] }
  | _ => none }
def bookSumsRow : OpenClaim := { program := "ytekelnkjigaofaa", sum := "66fff5a6ac4dc069251ee50bd33339058583a47a1efd2e75c1a5ae6950183b46", func := "satrapy/satrapylaw9.BookSums", spec := "bookSums", unfollowed := true, recurses := true, apart := false }
def BookSumsSaid : Prop := bookSumsRow.holds Try.pinned (OpenSpec.ofChange bookSumsSpec)

/-- ITS FALSE NEIGHBOUR: 'it returns false'. Refute it at one input. -/
def bookSumsWrong : ChangeSpec := { name := "bookSums", fn := fun _ => fun
  | [d] => { results := [.lit (.bool false)], args := [d] }
  | _ => none }
def BookSumsWrongFalsely : Prop := bookSumsRow.holds Try.pinned (OpenSpec.ofChange bookSumsWrong)

/-- 'satrapylaw9.BookBest': WHATEVER THE INPUT: true; the input reads as it did. -/
def bookBestSpec : ChangeSpec := { name := "bookBest", fn := fun _ => fun
  | [d1, d2] => { results := [.lit (.bool true)], args := [d1, d2] }
  | _ => none }
def bookBestRow : OpenClaim := { program := "ytekelnkjigaofaa", sum := "66fff5a6ac4dc069251ee50bd33339058583a47a1efd2e75c1a5ae6950183b46", func := "satrapy/satrapylaw9.BookBest", spec := "bookBest", unfollowed := true, recurses := true, apart := false }
def BookBestSaid : Prop := bookBestRow.holds Try.pinned (OpenSpec.ofChange bookBestSpec)

/-- ITS FALSE NEIGHBOUR: 'it returns false'. Refute it at one input. -/
def bookBestWrong : ChangeSpec := { name := "bookBest", fn := fun _ => fun
  | [d1, d2] => { results := [.lit (.bool false)], args := [d1, d2] }
  | _ => none }
def BookBestWrongFalsely : Prop := bookBestRow.holds Try.pinned (OpenSpec.ofChange bookBestWrong)

/-- 'satrapylaw9.BookPrices': WHATEVER THE INPUT: true; the input reads as it did. -/
def bookPricesSpec : ChangeSpec := { name := "bookPrices", fn := fun _ => fun
  | [d] => { results := [.lit (.bool true)], args := [d] }
  | _ => none }
def bookPricesRow : OpenClaim := { program := "ytekelnkjigaofaa", sum := "66fff5a6ac4dc069251ee50bd33339058583a47a1efd2e75c1a5ae6950183b46", func := "satrapy/satrapylaw9.BookPrices", spec := "bookPrices", unfollowed := true, recurses := true, apart := false }
def BookPricesSaid : Prop := bookPricesRow.holds Try.pinned (OpenSpec.ofChange bookPricesSpec)

/-- ITS FALSE NEIGHBOUR: 'it returns false'. Refute it at one input. -/
def bookPricesWrong : ChangeSpec := { name := "bookPrices", fn := fun _ => fun
  | [d] => { results := [.lit (.bool false)], args := [d] }
  | _ => none }
def BookPricesWrongFalsely : Prop := bookPricesRow.holds Try.pinned (OpenSpec.ofChange bookPricesWrong)

/-- 'satrapylaw9.BookGone': WHATEVER THE INPUT: true; the input reads as it did. -/
def bookGoneSpec : ChangeSpec := { name := "bookGone", fn := fun _ => fun
  | [d1, d2, d3] => { results := [.lit (.bool true)], args := [d1, d2, d3] }
  | _ => none }
def bookGoneRow : OpenClaim := { program := "ytekelnkjigaofaa", sum := "66fff5a6ac4dc069251ee50bd33339058583a47a1efd2e75c1a5ae6950183b46", func := "satrapy/satrapylaw9.BookGone", spec := "bookGone", unfollowed := true, recurses := true, apart := false }
def BookGoneSaid : Prop := bookGoneRow.holds Try.pinned (OpenSpec.ofChange bookGoneSpec)

/-- ITS FALSE NEIGHBOUR: 'it returns false'. Refute it at one input. -/
def bookGoneWrong : ChangeSpec := { name := "bookGone", fn := fun _ => fun
  | [d1, d2, d3] => { results := [.lit (.bool false)], args := [d1, d2, d3] }
  | _ => none }
def BookGoneWrongFalsely : Prop := bookGoneRow.holds Try.pinned (OpenSpec.ofChange bookGoneWrong)

/- THE SECOND FORM. 'bulk': how many values and letters a reading holds, each counted each time it is reached (what is shared counts as often as it is met; a slice's spare places count too). A statement '..UptoSaid' is the law's where the arguments, and the package variables that the reading takes, are together of bulk at most 1048576: NARROWER than '..Said'. Prove '..Said' where nothing that the law and all that it calls make is longer than what came in: it says more and counts as full. Else prove '..UptoSaid'. A law counts once. -/
mutual
def uptoBulk {H : Type} : DataW H → Nat
  | .lit (.string bytes) => bytes.length + 1
  | .lit _ => 1
  | .nil => 1
  | .ptr d => uptoBulk d + 1
  | .slice elems spare => uptoBulkAll elems + uptoBulkAll spare + 1
  | .agg parts => uptoBulkAll parts + 1
  | .iface _ d => uptoBulk d + 1
  | .map entries => uptoBulkEntries entries + 1
  | .held _ => 1
def uptoBulkAll {H : Type} : List (DataW H) → Nat
  | [] => 0
  | d :: r => uptoBulk d + uptoBulkAll r
def uptoBulkEntries {H : Type} : List (Lit × DataW H) → Nat
  | [] => 0
  | x :: r => uptoBulkEntry x + uptoBulkEntries r
def uptoBulkEntry {H : Type} : Lit × DataW H → Nat
  | (.string bytes, d) => bytes.length + uptoBulk d + 1
  | (_, d) => uptoBulk d + 1
 end
def uptoSmall : (H : Type) → List (DataW H) → Bool := fun _ ds => decide (uptoBulkAll ds ≤ 1048576)
def OpenSpec.upto (s : _root_.Go.ChangeSpec) : _root_.Go.OpenSpec := { _root_.Go.OpenSpec.ofChange s with cond := some uptoSmall }

/-- 'satrapylaw9.BookPlays', WHERE WHAT IT READS IS OF BULK AT MOST 1048576: true; the input reads as it did. -/
def bookPlaysUptoRow : OpenClaim := { program := "ytekelnkjigaofaa", sum := "66fff5a6ac4dc069251ee50bd33339058583a47a1efd2e75c1a5ae6950183b46", func := "satrapy/satrapylaw9.BookPlays", spec := "bookPlays", unfollowed := true, recurses := true, apart := false, narrowed := true }
def BookPlaysUptoSaid : Prop := bookPlaysUptoRow.holds Try.pinned (OpenSpec.upto bookPlaysSpec)

/-- 'satrapylaw9.BookOf', WHERE WHAT IT READS IS OF BULK AT MOST 1048576: true; the input reads as it did. -/
def bookOfUptoRow : OpenClaim := { program := "ytekelnkjigaofaa", sum := "66fff5a6ac4dc069251ee50bd33339058583a47a1efd2e75c1a5ae6950183b46", func := "satrapy/satrapylaw9.BookOf", spec := "bookOf", unfollowed := true, recurses := true, apart := false, narrowed := true }
def BookOfUptoSaid : Prop := bookOfUptoRow.holds Try.pinned (OpenSpec.upto bookOfSpec)

/-- 'satrapylaw9.BookApart', WHERE WHAT IT READS IS OF BULK AT MOST 1048576: true; the input reads as it did. -/
def bookApartUptoRow : OpenClaim := { program := "ytekelnkjigaofaa", sum := "66fff5a6ac4dc069251ee50bd33339058583a47a1efd2e75c1a5ae6950183b46", func := "satrapy/satrapylaw9.BookApart", spec := "bookApart", unfollowed := true, recurses := true, apart := false, narrowed := true }
def BookApartUptoSaid : Prop := bookApartUptoRow.holds Try.pinned (OpenSpec.upto bookApartSpec)

/-- 'satrapylaw9.BookSums', WHERE WHAT IT READS IS OF BULK AT MOST 1048576: true; the input reads as it did. -/
def bookSumsUptoRow : OpenClaim := { program := "ytekelnkjigaofaa", sum := "66fff5a6ac4dc069251ee50bd33339058583a47a1efd2e75c1a5ae6950183b46", func := "satrapy/satrapylaw9.BookSums", spec := "bookSums", unfollowed := true, recurses := true, apart := false, narrowed := true }
def BookSumsUptoSaid : Prop := bookSumsUptoRow.holds Try.pinned (OpenSpec.upto bookSumsSpec)

/-- 'satrapylaw9.BookBest', WHERE WHAT IT READS IS OF BULK AT MOST 1048576: true; the input reads as it did. -/
def bookBestUptoRow : OpenClaim := { program := "ytekelnkjigaofaa", sum := "66fff5a6ac4dc069251ee50bd33339058583a47a1efd2e75c1a5ae6950183b46", func := "satrapy/satrapylaw9.BookBest", spec := "bookBest", unfollowed := true, recurses := true, apart := false, narrowed := true }
def BookBestUptoSaid : Prop := bookBestUptoRow.holds Try.pinned (OpenSpec.upto bookBestSpec)

/-- 'satrapylaw9.BookPrices', WHERE WHAT IT READS IS OF BULK AT MOST 1048576: true; the input reads as it did. -/
def bookPricesUptoRow : OpenClaim := { program := "ytekelnkjigaofaa", sum := "66fff5a6ac4dc069251ee50bd33339058583a47a1efd2e75c1a5ae6950183b46", func := "satrapy/satrapylaw9.BookPrices", spec := "bookPrices", unfollowed := true, recurses := true, apart := false, narrowed := true }
def BookPricesUptoSaid : Prop := bookPricesUptoRow.holds Try.pinned (OpenSpec.upto bookPricesSpec)

/-- 'satrapylaw9.BookGone', WHERE WHAT IT READS IS OF BULK AT MOST 1048576: true; the input reads as it did. -/
def bookGoneUptoRow : OpenClaim := { program := "ytekelnkjigaofaa", sum := "66fff5a6ac4dc069251ee50bd33339058583a47a1efd2e75c1a5ae6950183b46", func := "satrapy/satrapylaw9.BookGone", spec := "bookGone", unfollowed := true, recurses := true, apart := false, narrowed := true }
def BookGoneUptoSaid : Prop := bookGoneUptoRow.holds Try.pinned (OpenSpec.upto bookGoneSpec)

end Rows
end Go.Proofs.Ytekelnkjigaofaa
