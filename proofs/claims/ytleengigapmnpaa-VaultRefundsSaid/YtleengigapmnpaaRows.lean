/-
  No cell of these rows narrows 'for every input' (looked for: loops, veiled, ifaces, maps, wideKeys, modest, calm, conditions, laid).
  DERIVED. THE GIVEN ROWS OF THIS SEAT. 7 by the template 'for every input the law returns true; each argument reads behind the call as it read before'; 0 by the template 'total and deterministic' (their statements: YtleengigapmnpaaTotals.lean).
  GIVEN WITH THE SEED: the statements are not yours to turn. If you find one false, say at which input.
  Laid BY PROGRAM, IN A SANDBOX (cutbox-rows.mjs): the forced cells as the released guide's own fill.sh prints them over the translation 8e2a23419284c828… (all of the seat's roots in one cut). By AI agents, Wed Nov 11 2026. No macro, syntax, notation, axiom, sorry.
-/
import Derived.Test.YtleengigapmnpaaChecked
import GoSem.Claim
import GoSem.ClaimJoined
import GoSem.ClaimMapViews
import Derived.JoinedTies
import Derived.KernelRfl
namespace Go.Proofs.Ytleengigapmnpaa
/- THE CELL 'sum', in the pinned program and in every row, IS THE sha256 OF THE DUMP (.gsa) THAT YtleengigapmnpaaProg.lean LOADS. Nothing in Lean hashes anything: it is a label: what it is worth is what the hold of that sum in a sandbox is worth. -/
noncomputable def Try.pinned : Pinned := { name := "ytleengigapmnpaa", sum := "8e2a23419284c828a6079e7a460aba1d1a7ce7b7fbc819f06676b5d6dfda78e7", checked := Try.checked }
namespace Rows
def none {H : Type} : Left H := { results := [], args := [] }

/-- 'satrapylaw9.BookFull': WHATEVER THE INPUT: true; the input reads as it did. -/
def bookFullSpec : ChangeSpec := { name := "bookFull", fn := fun _ => fun
  | [d] => { results := [.lit (.bool true)], args := [d] }
  | _ => none }
def bookFullRow : OpenClaim := { program := "ytleengigapmnpaa", sum := "8e2a23419284c828a6079e7a460aba1d1a7ce7b7fbc819f06676b5d6dfda78e7", func := "satrapy/satrapylaw9.BookFull", spec := "bookFull", unfollowed := true, recurses := true, apart := false }
def BookFullSaid : Prop := bookFullRow.holds Try.pinned (OpenSpec.ofChange bookFullSpec)

/-- ITS FALSE NEIGHBOUR: 'it returns false'. Refute it at one input. -/
def bookFullWrong : ChangeSpec := { name := "bookFull", fn := fun _ => fun
  | [d] => { results := [.lit (.bool false)], args := [d] }
  | _ => none }
def BookFullWrongFalsely : Prop := bookFullRow.holds Try.pinned (OpenSpec.ofChange bookFullWrong)

/-- 'satrapylaw11.VaultRefunds': WHATEVER THE INPUT: true; the input reads as it did. -/
def vaultRefundsSpec : ChangeSpec := { name := "vaultRefunds", fn := fun _ => fun
  | [d1, d2, d3, d4] => { results := [.lit (.bool true)], args := [d1, d2, d3, d4] }
  | _ => none }
def vaultRefundsRow : OpenClaim := { program := "ytleengigapmnpaa", sum := "8e2a23419284c828a6079e7a460aba1d1a7ce7b7fbc819f06676b5d6dfda78e7", func := "satrapy/satrapylaw11.VaultRefunds", spec := "vaultRefunds", unfollowed := true, recurses := true, apart := false }
def VaultRefundsSaid : Prop := vaultRefundsRow.holds Try.pinned (OpenSpec.ofChange vaultRefundsSpec)

/-- ITS FALSE NEIGHBOUR: 'it returns false'. Refute it at one input. -/
def vaultRefundsWrong : ChangeSpec := { name := "vaultRefunds", fn := fun _ => fun
  | [d1, d2, d3, d4] => { results := [.lit (.bool false)], args := [d1, d2, d3, d4] }
  | _ => none }
def VaultRefundsWrongFalsely : Prop := vaultRefundsRow.holds Try.pinned (OpenSpec.ofChange vaultRefundsWrong)

/-- 'satrapylaw11.VaultOthers': WHATEVER THE INPUT: true; the input reads as it did. -/
def vaultOthersSpec : ChangeSpec := { name := "vaultOthers", fn := fun _ => fun
  | [d1, d2, d3] => { results := [.lit (.bool true)], args := [d1, d2, d3] }
  | _ => none }
def vaultOthersRow : OpenClaim := { program := "ytleengigapmnpaa", sum := "8e2a23419284c828a6079e7a460aba1d1a7ce7b7fbc819f06676b5d6dfda78e7", func := "satrapy/satrapylaw11.VaultOthers", spec := "vaultOthers", unfollowed := true, recurses := true, apart := false }
def VaultOthersSaid : Prop := vaultOthersRow.holds Try.pinned (OpenSpec.ofChange vaultOthersSpec)

/-- ITS FALSE NEIGHBOUR: 'it returns false'. Refute it at one input. -/
def vaultOthersWrong : ChangeSpec := { name := "vaultOthers", fn := fun _ => fun
  | [d1, d2, d3] => { results := [.lit (.bool false)], args := [d1, d2, d3] }
  | _ => none }
def VaultOthersWrongFalsely : Prop := vaultOthersRow.holds Try.pinned (OpenSpec.ofChange vaultOthersWrong)

/-- 'satrapylaw16.DirBack': WHATEVER THE INPUT: true; the input reads as it did. -/
def dirBackSpec : ChangeSpec := { name := "dirBack", fn := fun _ => fun
  | [d] => { results := [.lit (.bool true)], args := [d] }
  | _ => none }
def dirBackRow : OpenClaim := { program := "ytleengigapmnpaa", sum := "8e2a23419284c828a6079e7a460aba1d1a7ce7b7fbc819f06676b5d6dfda78e7", func := "satrapy/satrapylaw16.DirBack", spec := "dirBack", inPlace := ["slices.overlaps[satrapy/api.Zone]"], unfollowed := true, recurses := true, apart := false }
def DirBackSaid : Prop := dirBackRow.holds Try.pinned (OpenSpec.ofChange dirBackSpec)

/-- ITS FALSE NEIGHBOUR: 'it returns false'. Refute it at one input. -/
def dirBackWrong : ChangeSpec := { name := "dirBack", fn := fun _ => fun
  | [d] => { results := [.lit (.bool false)], args := [d] }
  | _ => none }
def DirBackWrongFalsely : Prop := dirBackRow.holds Try.pinned (OpenSpec.ofChange dirBackWrong)

/-- 'satrapylaw16.DirAborts': WHATEVER THE INPUT: true; the input reads as it did. -/
def dirAbortsSpec : ChangeSpec := { name := "dirAborts", fn := fun _ => fun
  | [d1, d2] => { results := [.lit (.bool true)], args := [d1, d2] }
  | _ => none }
def dirAbortsRow : OpenClaim := { program := "ytleengigapmnpaa", sum := "8e2a23419284c828a6079e7a460aba1d1a7ce7b7fbc819f06676b5d6dfda78e7", func := "satrapy/satrapylaw16.DirAborts", spec := "dirAborts", inPlace := ["slices.overlaps[satrapy/api.Zone]"], unfollowed := true, recurses := true, apart := false }
def DirAbortsSaid : Prop := dirAbortsRow.holds Try.pinned (OpenSpec.ofChange dirAbortsSpec)

/-- ITS FALSE NEIGHBOUR: 'it returns false'. Refute it at one input. -/
def dirAbortsWrong : ChangeSpec := { name := "dirAborts", fn := fun _ => fun
  | [d1, d2] => { results := [.lit (.bool false)], args := [d1, d2] }
  | _ => none }
def DirAbortsWrongFalsely : Prop := dirAbortsRow.holds Try.pinned (OpenSpec.ofChange dirAbortsWrong)

/-- 'satrapylaw20.PlanHot': WHATEVER THE INPUT: true; the input reads as it did. -/
def planHotSpec : ChangeSpec := { name := "planHot", fn := fun _ => fun
  | [d1, d2, d3] => { results := [.lit (.bool true)], args := [d1, d2, d3] }
  | _ => none }
def planHotRow : OpenClaim := { program := "ytleengigapmnpaa", sum := "8e2a23419284c828a6079e7a460aba1d1a7ce7b7fbc819f06676b5d6dfda78e7", func := "satrapy/satrapylaw20.PlanHot", spec := "planHot", unfollowed := true, recurses := true, apart := false }
def PlanHotSaid : Prop := planHotRow.holds Try.pinned (OpenSpec.ofChange planHotSpec)

/-- ITS FALSE NEIGHBOUR: 'it returns false'. Refute it at one input. -/
def planHotWrong : ChangeSpec := { name := "planHot", fn := fun _ => fun
  | [d1, d2, d3] => { results := [.lit (.bool false)], args := [d1, d2, d3] }
  | _ => none }
def PlanHotWrongFalsely : Prop := planHotRow.holds Try.pinned (OpenSpec.ofChange planHotWrong)

/-- 'satrapylaw20.PlanCold': WHATEVER THE INPUT: true; the input reads as it did. -/
def planColdSpec : ChangeSpec := { name := "planCold", fn := fun _ => fun
  | [d1, d2, d3, d4] => { results := [.lit (.bool true)], args := [d1, d2, d3, d4] }
  | _ => none }
def planColdRow : OpenClaim := { program := "ytleengigapmnpaa", sum := "8e2a23419284c828a6079e7a460aba1d1a7ce7b7fbc819f06676b5d6dfda78e7", func := "satrapy/satrapylaw20.PlanCold", spec := "planCold", unfollowed := true, recurses := true, apart := false }
def PlanColdSaid : Prop := planColdRow.holds Try.pinned (OpenSpec.ofChange planColdSpec)

/-- ITS FALSE NEIGHBOUR: 'it returns false'. Refute it at one input. -/
def planColdWrong : ChangeSpec := { name := "planCold", fn := fun _ => fun
  | [d1, d2, d3, d4] => { results := [.lit (.bool false)], args := [d1, d2, d3, d4] }
  | _ => none }
def PlanColdWrongFalsely : Prop := planColdRow.holds Try.pinned (OpenSpec.ofChange planColdWrong)

/- THE SECOND FORM. 'bulk': how many values and letters a reading holds, each counted each time it is reached (what is shared counts as often as it is met; a slice's spare places count too). A statement '..UptoSaid' is the law's where the arguments, and the package variables that the reading takes, are together of bulk at most 1048576: NARROWER than '..Said'. Prove '..Said' where nothing that the law and all that it calls make is longer than what came in: it says more and counts as full. Else prove '..UptoSaid'. A law counts once. -/
mutual
def uptoBulk {H : Type} : DataW H → Nat
  | .lit (.string bytes) => bytes.length + 1
  | .lit _ => 1
  | .nil => 1
  | .ptr d => uptoBulk d + 1
  | .slice elems spare => uptoBulkAll elems + uptoBulkAll spare + 1
  | .agg parts => uptoBulkAll parts + 1
  | .iface _ d => uptoBulk d + 1
  | .map entries => uptoBulkEntries entries + 1
  | .held _ => 1
def uptoBulkAll {H : Type} : List (DataW H) → Nat
  | [] => 0
  | d :: r => uptoBulk d + uptoBulkAll r
def uptoBulkEntries {H : Type} : List (Lit × DataW H) → Nat
  | [] => 0
  | x :: r => uptoBulkEntry x + uptoBulkEntries r
def uptoBulkEntry {H : Type} : Lit × DataW H → Nat
  | (.string bytes, d) => bytes.length + uptoBulk d + 1
  | (_, d) => uptoBulk d + 1
 end
def uptoSmall : (H : Type) → List (DataW H) → Bool := fun _ ds => decide (uptoBulkAll ds ≤ 1048576)
def OpenSpec.upto (s : _root_.Go.ChangeSpec) : _root_.Go.OpenSpec := { _root_.Go.OpenSpec.ofChange s with cond := some uptoSmall }

/-- 'satrapylaw9.BookFull', WHERE WHAT IT READS IS OF BULK AT MOST 1048576: true; the input reads as it did. -/
def bookFullUptoRow : OpenClaim := { program := "ytleengigapmnpaa", sum := "8e2a23419284c828a6079e7a460aba1d1a7ce7b7fbc819f06676b5d6dfda78e7", func := "satrapy/satrapylaw9.BookFull", spec := "bookFull", unfollowed := true, recurses := true, apart := false, narrowed := true }
def BookFullUptoSaid : Prop := bookFullUptoRow.holds Try.pinned (OpenSpec.upto bookFullSpec)

/-- 'satrapylaw11.VaultRefunds', WHERE WHAT IT READS IS OF BULK AT MOST 1048576: true; the input reads as it did. -/
def vaultRefundsUptoRow : OpenClaim := { program := "ytleengigapmnpaa", sum := "8e2a23419284c828a6079e7a460aba1d1a7ce7b7fbc819f06676b5d6dfda78e7", func := "satrapy/satrapylaw11.VaultRefunds", spec := "vaultRefunds", unfollowed := true, recurses := true, apart := false, narrowed := true }
def VaultRefundsUptoSaid : Prop := vaultRefundsUptoRow.holds Try.pinned (OpenSpec.upto vaultRefundsSpec)

/-- 'satrapylaw11.VaultOthers', WHERE WHAT IT READS IS OF BULK AT MOST 1048576: true; the input reads as it did. -/
def vaultOthersUptoRow : OpenClaim := { program := "ytleengigapmnpaa", sum := "8e2a23419284c828a6079e7a460aba1d1a7ce7b7fbc819f06676b5d6dfda78e7", func := "satrapy/satrapylaw11.VaultOthers", spec := "vaultOthers", unfollowed := true, recurses := true, apart := false, narrowed := true }
def VaultOthersUptoSaid : Prop := vaultOthersUptoRow.holds Try.pinned (OpenSpec.upto vaultOthersSpec)

/-- 'satrapylaw16.DirBack', WHERE WHAT IT READS IS OF BULK AT MOST 1048576: true; the input reads as it did. -/
def dirBackUptoRow : OpenClaim := { program := "ytleengigapmnpaa", sum := "8e2a23419284c828a6079e7a460aba1d1a7ce7b7fbc819f06676b5d6dfda78e7", func := "satrapy/satrapylaw16.DirBack", spec := "dirBack", inPlace := ["slices.overlaps[satrapy/api.Zone]"], unfollowed := true, recurses := true, apart := false, narrowed := true }
def DirBackUptoSaid : Prop := dirBackUptoRow.holds Try.pinned (OpenSpec.upto dirBackSpec)

/-- 'satrapylaw16.DirAborts', WHERE WHAT IT READS IS OF BULK AT MOST 1048576: true; the input reads as it did. -/
def dirAbortsUptoRow : OpenClaim := { program := "ytleengigapmnpaa", sum := "8e2a23419284c828a6079e7a460aba1d1a7ce7b7fbc819f06676b5d6dfda78e7", func := "satrapy/satrapylaw16.DirAborts", spec := "dirAborts", inPlace := ["slices.overlaps[satrapy/api.Zone]"], unfollowed := true, recurses := true, apart := false, narrowed := true }
def DirAbortsUptoSaid : Prop := dirAbortsUptoRow.holds Try.pinned (OpenSpec.upto dirAbortsSpec)

/-- 'satrapylaw20.PlanHot', WHERE WHAT IT READS IS OF BULK AT MOST 1048576: true; the input reads as it did. -/
def planHotUptoRow : OpenClaim := { program := "ytleengigapmnpaa", sum := "8e2a23419284c828a6079e7a460aba1d1a7ce7b7fbc819f06676b5d6dfda78e7", func := "satrapy/satrapylaw20.PlanHot", spec := "planHot", unfollowed := true, recurses := true, apart := false, narrowed := true }
def PlanHotUptoSaid : Prop := planHotUptoRow.holds Try.pinned (OpenSpec.upto planHotSpec)

/-- 'satrapylaw20.PlanCold', WHERE WHAT IT READS IS OF BULK AT MOST 1048576: true; the input reads as it did. -/
def planColdUptoRow : OpenClaim := { program := "ytleengigapmnpaa", sum := "8e2a23419284c828a6079e7a460aba1d1a7ce7b7fbc819f06676b5d6dfda78e7", func := "satrapy/satrapylaw20.PlanCold", spec := "planCold", unfollowed := true, recurses := true, apart := false, narrowed := true }
def PlanColdUptoSaid : Prop := planColdUptoRow.holds Try.pinned (OpenSpec.upto planColdSpec)

end Rows
end Go.Proofs.Ytleengigapmnpaa
