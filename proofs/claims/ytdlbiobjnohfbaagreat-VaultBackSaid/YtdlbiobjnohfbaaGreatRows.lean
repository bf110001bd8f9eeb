/-
  No cell of these rows narrows 'for every input' (looked for: loops, veiled, ifaces, maps, wideKeys, modest, calm, conditions, laid).
  DERIVED. THE GIVEN ROWS OF THIS SEAT. 3 by the template 'for every input the law returns true; each argument reads behind the call as it read before'; 0 by the template 'total and deterministic' (their statements: YtdlbiobjnohfbaaGreatTotals.lean).
  GIVEN WITH THE SEED: the statements are not yours to turn. If you find one false, say at which input.
  Laid BY PROGRAM, IN A SANDBOX (cutbox-rows.mjs): the forced cells as the released guide's own fill.sh prints them over the translation 7a65c80bde6c654c… (all of the seat's roots in one cut). By AI agents, Wed Nov 11 2026. No macro, syntax, notation, axiom, sorry.
-/
import Derived.Test.YtdlbiobjnohfbaaGreatChecked
import GoSem.Claim
import GoSem.ClaimJoined
import GoSem.ClaimMapViews
import Derived.JoinedTies
import Derived.KernelRfl
namespace Go.Proofs.YtdlbiobjnohfbaaGreat
/- THE CELL 'sum', in the pinned program and in every row, IS THE sha256 OF THE DUMP (.gsa) THAT YtdlbiobjnohfbaaGreatProg.lean LOADS. Nothing in Lean hashes anything: it is a label: what it is worth is what the hold of that sum in a sandbox is worth. -/
noncomputable def Tryz.pinned : Pinned := { name := "ytdlbiobjnohfbaagreat", sum := "7a65c80bde6c654cde5ed99f1f3e5c4cd2f43ca7683634cd63066fd586739980", checked := Tryz.checked }
namespace Rows
def none {H : Type} : Left H := { results := [], args := [] }

/-- 'satrapylaw11.VaultPlays': WHATEVER THE INPUT: true; the input reads as it did. -/
def vaultPlaysSpec : ChangeSpec := { name := "vaultPlays", fn := fun _ => fun
  | [d] => { results := [.lit (.bool true)], args := [d] }
  | _ => none }
def vaultPlaysRow : OpenClaim := { program := "ytdlbiobjnohfbaagreat", sum := "7a65c80bde6c654cde5ed99f1f3e5c4cd2f43ca7683634cd63066fd586739980", func := "satrapy/satrapylaw11.VaultPlays", spec := "vaultPlays", unfollowed := true, recurses := true, apart := false }
def VaultPlaysSaid : Prop := vaultPlaysRow.holds Tryz.pinned (OpenSpec.ofChange vaultPlaysSpec)

/-- ITS FALSE NEIGHBOUR: 'it returns false'. Refute it at one input. -/
def vaultPlaysWrong : ChangeSpec := { name := "vaultPlays", fn := fun _ => fun
  | [d] => { results := [.lit (.bool false)], args := [d] }
  | _ => none }
def VaultPlaysWrongFalsely : Prop := vaultPlaysRow.holds Tryz.pinned (OpenSpec.ofChange vaultPlaysWrong)

/-- 'satrapylaw11.VaultBack': WHATEVER THE INPUT: true; the input reads as it did. -/
def vaultBackSpec : ChangeSpec := { name := "vaultBack", fn := fun _ => fun
  | [d1, d2] => { results := [.lit (.bool true)], args := [d1, d2] }
  | _ => none }
def vaultBackRow : OpenClaim := { program := "ytdlbiobjnohfbaagreat", sum := "7a65c80bde6c654cde5ed99f1f3e5c4cd2f43ca7683634cd63066fd586739980", func := "satrapy/satrapylaw11.VaultBack", spec := "vaultBack", unfollowed := true, recurses := true, apart := false }
def VaultBackSaid : Prop := vaultBackRow.holds Tryz.pinned (OpenSpec.ofChange vaultBackSpec)

/-- ITS FALSE NEIGHBOUR: 'it returns false'. Refute it at one input. -/
def vaultBackWrong : ChangeSpec := { name := "vaultBack", fn := fun _ => fun
  | [d1, d2] => { results := [.lit (.bool false)], args := [d1, d2] }
  | _ => none }
def VaultBackWrongFalsely : Prop := vaultBackRow.holds Tryz.pinned (OpenSpec.ofChange vaultBackWrong)

/-- 'satrapylaw11.VaultDecodes': WHATEVER THE INPUT: true; the input reads as it did. -/
def vaultDecodesSpec : ChangeSpec := { name := "vaultDecodes", fn := fun _ => fun
  | [d] => { results := [.lit (.bool true)], args := [d] }
  | _ => none }
def vaultDecodesRow : OpenClaim := { program := "ytdlbiobjnohfbaagreat", sum := "7a65c80bde6c654cde5ed99f1f3e5c4cd2f43ca7683634cd63066fd586739980", func := "satrapy/satrapylaw11.VaultDecodes", spec := "vaultDecodes", unfollowed := true, recurses := true, apart := false }
def VaultDecodesSaid : Prop := vaultDecodesRow.holds Tryz.pinned (OpenSpec.ofChange vaultDecodesSpec)

/-- ITS FALSE NEIGHBOUR: 'it returns false'. Refute it at one input. -/
def vaultDecodesWrong : ChangeSpec := { name := "vaultDecodes", fn := fun _ => fun
  | [d] => { results := [.lit (.bool false)], args := [d] }
  | _ => none }
def VaultDecodesWrongFalsely : Prop := vaultDecodesRow.holds Tryz.pinned (OpenSpec.ofChange vaultDecodesWrong)

/- THE SECOND FORM. 'bulk': how many values and letters a reading holds, each counted each time it is reached (what is shared counts as often as it is met; a slice's spare places count too). A statement '..UptoSaid' is the law's where the arguments, and the package variables that the reading takes, are together of bulk at most 1048576: NARROWER than '..Said'. Prove '..Said' where nothing that the law and all that it calls make is longer than what came in: it says more and counts as full. Else prove '..UptoSaid'. A law counts once. -/
mutual
def uptoBulk {H : Type} : DataW H → Nat
  | .lit (.string bytes) => bytes.length + 1
  | .lit _ => 1
  | .nil => 1
  | .ptr d => uptoBulk d + 1
  | .slice elems spare => uptoBulkAll elems + uptoBulkAll spare + 1
  | .agg parts => uptoBulkAll parts + 1
  | .iface _ d => uptoBulk d + 1
  | .map entries => uptoBulkEntries entries + 1
  | .held _ => 1
def uptoBulkAll {H : Type} : List (DataW H) → Nat
  | [] => 0
  | d :: r => uptoBulk d + uptoBulkAll r
def uptoBulkEntries {H : Type} : List (Lit × DataW H) → Nat
  | [] => 0
  | x :: r => uptoBulkEntry x + uptoBulkEntries r
def uptoBulkEntry {H : Type} : Lit × DataW H → Nat
  | (.string bytes, d) => bytes.length + uptoBulk d + 1
  | (_, d) => uptoBulk d + 1
 end
def uptoSmall : (H : Type) → List (DataW H) → Bool := fun _ ds => decide (uptoBulkAll ds ≤ 1048576)
def OpenSpec.upto (s : _root_.Go.ChangeSpec) : _root_.Go.OpenSpec := { _root_.Go.OpenSpec.ofChange s with cond := some uptoSmall }

/-- 'satrapylaw11.VaultPlays', WHERE WHAT IT READS IS OF BULK AT MOST 1048576: true; the input reads as it did. -/
def vaultPlaysUptoRow : OpenClaim := { program := "ytdlbiobjnohfbaagreat", sum := "7a65c80bde6c654cde5ed99f1f3e5c4cd2f43ca7683634cd63066fd586739980", func := "satrapy/satrapylaw11.VaultPlays", spec := "vaultPlays", unfollowed := true, recurses := true, apart := false, narrowed := true }
def VaultPlaysUptoSaid : Prop := vaultPlaysUptoRow.holds Tryz.pinned (OpenSpec.upto vaultPlaysSpec)

/-- 'satrapylaw11.VaultBack', WHERE WHAT IT READS IS OF BULK AT MOST 1048576: true; the input reads as it did. -/
def vaultBackUptoRow : OpenClaim := { program := "ytdlbiobjnohfbaagreat", sum := "7a65c80bde6c654cde5ed99f1f3e5c4cd2f43ca7683634cd63066fd586739980", func := "satrapy/satrapylaw11.VaultBack", spec := "vaultBack", unfollowed := true, recurses := true, apart := false, narrowed := true }
def VaultBackUptoSaid : Prop := vaultBackUptoRow.holds Tryz.pinned (OpenSpec.upto vaultBackSpec)

/-- 'satrapylaw11.VaultDecodes', WHERE WHAT IT READS IS OF BULK AT MOST 1048576: true; the input reads as it did. -/
def vaultDecodesUptoRow : OpenClaim := { program := "ytdlbiobjnohfbaagreat", sum := "7a65c80bde6c654cde5ed99f1f3e5c4cd2f43ca7683634cd63066fd586739980", func := "satrapy/satrapylaw11.VaultDecodes", spec := "vaultDecodes", unfollowed := true, recurses := true, apart := false, narrowed := true }
def VaultDecodesUptoSaid : Prop := vaultDecodesUptoRow.holds Tryz.pinned (OpenSpec.upto vaultDecodesSpec)

end Rows
end Go.Proofs.YtdlbiobjnohfbaaGreat
