/-
  No cell of these rows narrows 'for every input' (looked for: loops, veiled, ifaces, maps, wideKeys, modest, calm, conditions, laid).
  DERIVED. THE GIVEN ROWS OF THIS SEAT. 3 by the template 'for every input the law returns true; each argument reads behind the call as it read before'; 0 by the template 'total and deterministic' (their statements: YtdlbiobjnohfbaaTotals.lean).
  GIVEN WITH THE SEED: the statements are not yours to turn. If you find one false, say at which input.
  Laid BY PROGRAM, IN A SANDBOX (cutbox-rows.mjs): the forced cells as the released guide's own fill.sh prints them over the translation 40e531fb1c36579c… (all of the seat's roots in one cut). By AI agents, Wed Nov 11 2026. No macro, syntax, notation, axiom, sorry.
-/
import Derived.Test.YtdlbiobjnohfbaaChecked
import GoSem.Claim
import GoSem.ClaimJoined
import GoSem.ClaimMapViews
import Derived.JoinedTies
import Derived.KernelRfl
namespace Go.Proofs.Ytdlbiobjnohfbaa
/- THE CELL 'sum', in the pinned program and in every row, IS THE sha256 OF THE DUMP (.gsa) THAT YtdlbiobjnohfbaaProg.lean LOADS. Nothing in Lean hashes anything: it is a label: what it is worth is what the hold of that sum in a sandbox is worth. -/
noncomputable def Try.pinned : Pinned := { name := "ytdlbiobjnohfbaa", sum := "40e531fb1c36579c88dfaa835fc708d16ace04ea160eea4e5dca2f0749a79584", checked := Try.checked }
namespace Rows
def none {H : Type} : Left H := { results := [], args := [] }

/-- 'satrapylaw11.VaultKeeps': WHATEVER THE INPUT: true; the input reads as it did. -/
def vaultKeepsSpec : ChangeSpec := { name := "vaultKeeps", fn := fun _ => fun
  | [d] => { results := [.lit (.bool true)], args := [d] }
  | _ => none }
def vaultKeepsRow : OpenClaim := { program := "ytdlbiobjnohfbaa", sum := "40e531fb1c36579c88dfaa835fc708d16ace04ea160eea4e5dca2f0749a79584", func := "satrapy/satrapylaw11.VaultKeeps", spec := "vaultKeeps", unfollowed := true, recurses := true, apart := false }
def VaultKeepsSaid : Prop := vaultKeepsRow.holds Try.pinned (OpenSpec.ofChange vaultKeepsSpec)

/-- ITS FALSE NEIGHBOUR: 'it returns false'. Refute it at one input. -/
def vaultKeepsWrong : ChangeSpec := { name := "vaultKeeps", fn := fun _ => fun
  | [d] => { results := [.lit (.bool false)], args := [d] }
  | _ => none }
def VaultKeepsWrongFalsely : Prop := vaultKeepsRow.holds Try.pinned (OpenSpec.ofChange vaultKeepsWrong)

/-- 'satrapylaw11.VaultOthers': WHATEVER THE INPUT: true; the input reads as it did. -/
def vaultOthersSpec : ChangeSpec := { name := "vaultOthers", fn := fun _ => fun
  | [d1, d2, d3] => { results := [.lit (.bool true)], args := [d1, d2, d3] }
  | _ => none }
def vaultOthersRow : OpenClaim := { program := "ytdlbiobjnohfbaa", sum := "40e531fb1c36579c88dfaa835fc708d16ace04ea160eea4e5dca2f0749a79584", func := "satrapy/satrapylaw11.VaultOthers", spec := "vaultOthers", unfollowed := true, recurses := true, apart := false }
def VaultOthersSaid : Prop := vaultOthersRow.holds Try.pinned (OpenSpec.ofChange vaultOthersSpec)

/-- ITS FALSE NEIGHBOUR: 'it returns false'. Refute it at one input. -/
def vaultOthersWrong : ChangeSpec := { name := "vaultOthers", fn := fun _ => fun
  | [d1, d2, d3] => { results := [.lit (.bool false)], args := [d1, d2, d3] }
  | _ => none }
def VaultOthersWrongFalsely : Prop := vaultOthersRow.holds Try.pinned (OpenSpec.ofChange vaultOthersWrong)

/-- 'satrapylaw11.VaultIDs': WHATEVER THE INPUT: true; the input reads as it did. -/
def vaultIDsSpec : ChangeSpec := { name := "vaultIDs", fn := fun _ => fun
  | [d] => { results := [.lit (.bool true)], args := [d] }
  | _ => none }
def vaultIDsRow : OpenClaim := { program := "ytdlbiobjnohfbaa", sum := "40e531fb1c36579c88dfaa835fc708d16ace04ea160eea4e5dca2f0749a79584", func := "satrapy/satrapylaw11.VaultIDs", spec := "vaultIDs", unfollowed := true, recurses := true, apart := false }
def VaultIDsSaid : Prop := vaultIDsRow.holds Try.pinned (OpenSpec.ofChange vaultIDsSpec)

/-- ITS FALSE NEIGHBOUR: 'it returns false'. Refute it at one input. -/
def vaultIDsWrong : ChangeSpec := { name := "vaultIDs", fn := fun _ => fun
  | [d] => { results := [.lit (.bool false)], args := [d] }
  | _ => none }
def VaultIDsWrongFalsely : Prop := vaultIDsRow.holds Try.pinned (OpenSpec.ofChange vaultIDsWrong)

/- THE SECOND FORM. 'bulk': how many values and letters a reading holds, each counted each time it is reached (what is shared counts as often as it is met; a slice's spare places count too). A statement '..UptoSaid' is the law's where the arguments, and the package variables that the reading takes, are together of bulk at most 1048576: NARROWER than '..Said'. Prove '..Said' where nothing that the law and all that it calls make is longer than what came in: it says more and counts as full. Else prove '..UptoSaid'. A law counts once. -/
mutual
def uptoBulk {H : Type} : DataW H → Nat
  | .lit (.string bytes) => bytes.length + 1
  | .lit _ => 1
  | .nil => 1
  | .ptr d => uptoBulk d + 1
  | .slice elems spare => uptoBulkAll elems + uptoBulkAll spare + 1
  | .agg parts => uptoBulkAll parts + 1
  | .iface _ d => uptoBulk d + 1
  | .map entries => uptoBulkEntries entries + 1
  | .held _ => 1
def uptoBulkAll {H : Type} : List (DataW H) → Nat
  | [] => 0
  | d :: r => uptoBulk d + uptoBulkAll r
def uptoBulkEntries {H : Type} : List (Lit × DataW H) → Nat
  | [] => 0
  | x :: r => uptoBulkEntry x + uptoBulkEntries r
def uptoBulkEntry {H : Type} : Lit × DataW H → Nat
  | (.string bytes, d) => bytes.length + uptoBulk d + 1
  | (_, d) => uptoBulk d + 1
 end
def uptoSmall : (H : Type) → List (DataW H) → Bool := fun _ ds => decide (uptoBulkAll ds ≤ 1048576)
def OpenSpec.upto (s : _root_.Go.ChangeSpec) : _root_.Go.OpenSpec := { _root_.Go.OpenSpec.ofChange s with cond := some uptoSmall }

/-- 'satrapylaw11.VaultKeeps', WHERE WHAT IT READS IS OF BULK AT MOST 1048576: true; the input reads as it did. -/
def vaultKeepsUptoRow : OpenClaim := { program := "ytdlbiobjnohfbaa", sum := "40e531fb1c36579c88dfaa835fc708d16ace04ea160eea4e5dca2f0749a79584", func := "satrapy/satrapylaw11.VaultKeeps", spec := "vaultKeeps", unfollowed := true, recurses := true, apart := false, narrowed := true }
def VaultKeepsUptoSaid : Prop := vaultKeepsUptoRow.holds Try.pinned (OpenSpec.upto vaultKeepsSpec)

/-- 'satrapylaw11.VaultOthers', WHERE WHAT IT READS IS OF BULK AT MOST 1048576: true; the input reads as it did. -/
def vaultOthersUptoRow : OpenClaim := { program := "ytdlbiobjnohfbaa", sum := "40e531fb1c36579c88dfaa835fc708d16ace04ea160eea4e5dca2f0749a79584", func := "satrapy/satrapylaw11.VaultOthers", spec := "vaultOthers", unfollowed := true, recurses := true, apart := false, narrowed := true }
def VaultOthersUptoSaid : Prop := vaultOthersUptoRow.holds Try.pinned (OpenSpec.upto vaultOthersSpec)

/-- 'satrapylaw11.VaultIDs', WHERE WHAT IT READS IS OF BULK AT MOST 1048576: true; the input reads as it did. -/
def vaultIDsUptoRow : OpenClaim := { program := "ytdlbiobjnohfbaa", sum := "40e531fb1c36579c88dfaa835fc708d16ace04ea160eea4e5dca2f0749a79584", func := "satrapy/satrapylaw11.VaultIDs", spec := "vaultIDs", unfollowed := true, recurses := true, apart := false, narrowed := true }
def VaultIDsUptoSaid : Prop := vaultIDsUptoRow.holds Try.pinned (OpenSpec.upto vaultIDsSpec)

end Rows
end Go.Proofs.Ytdlbiobjnohfbaa
