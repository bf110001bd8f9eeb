/-
  No cell of these rows narrows 'for every input' (looked for: loops, veiled, ifaces, maps, wideKeys, modest, calm, conditions, laid).
  DERIVED. THE GIVEN ROWS OF THIS SEAT. 4 by the template 'for every input the law returns true; each argument reads behind the call as it read before'; 0 by the template 'total and deterministic' (their statements: YtljhlnpbomehkaaTotals.lean).
  GIVEN WITH THE SEED: the statements are not yours to turn. If you find one false, say at which input.
  Laid BY PROGRAM, IN A SANDBOX (cutbox-rows.mjs): the forced cells as the released guide's own fill.sh prints them over the translation 7a374cf13785dffe… (all of the seat's roots in one cut). By AI agents, Wed Nov 11 2026. No macro, syntax, notation, axiom, sorry.
-/
import Derived.Test.YtljhlnpbomehkaaChecked
import GoSem.Claim
import GoSem.ClaimJoined
import GoSem.ClaimMapViews
import Derived.JoinedTies
import Derived.KernelRfl
namespace Go.Proofs.Ytljhlnpbomehkaa
/- THE CELL 'sum', in the pinned program and in every row, IS THE sha256 OF THE DUMP (.gsa) THAT YtljhlnpbomehkaaProg.lean LOADS. Nothing in Lean hashes anything: it is a label: what it is worth is what the hold of that sum in a sandbox is worth. -/
noncomputable def Try.pinned : Pinned := { name := "ytljhlnpbomehkaa", sum := "7a374cf13785dffec1c942567eab35cf1139dc7a51f0f5ce5307a50619ef377d", checked := Try.checked }
namespace Rows
def none {H : Type} : Left H := { results := [], args := [] }

/-- 'satrapylaw19.LoadOfNothing': WHATEVER THE INPUT: true; the input reads as it did. -/
def loadOfNothingSpec : ChangeSpec := { name := "loadOfNothing", fn := fun _ => fun
  | [d1, d2] => { results := [.lit (.bool true)], args := [d1, d2] }
  | _ => none }
def loadOfNothingRow : OpenClaim := { program := "ytljhlnpbomehkaa", sum := "7a374cf13785dffec1c942567eab35cf1139dc7a51f0f5ce5307a50619ef377d", func := "satrapy/satrapylaw19.LoadOfNothing", spec := "loadOfNothing", unfollowed := true, recurses := true, apart := false }
def LoadOfNothingSaid : Prop := loadOfNothingRow.holds Try.pinned (OpenSpec.ofChange loadOfNothingSpec)

/-- ITS FALSE NEIGHBOUR: 'it returns false'. Refute it at one input. -/
def loadOfNothingWrong : ChangeSpec := { name := "loadOfNothing", fn := fun _ => fun
  | [d1, d2] => { results := [.lit (.bool false)], args := [d1, d2] }
  | _ => none }
def LoadOfNothingWrongFalsely : Prop := loadOfNothingRow.holds Try.pinned (OpenSpec.ofChange loadOfNothingWrong)

/-- 'satrapylaw19.LoadFades': WHATEVER THE INPUT: true; the input reads as it did. -/
def loadFadesSpec : ChangeSpec := { name := "loadFades", fn := fun _ => fun
  | [d1, d2] => { results := [.lit (.bool true)], args := [d1, d2] }
  | _ => none }
def loadFadesRow : OpenClaim := { program := "ytljhlnpbomehkaa", sum := "7a374cf13785dffec1c942567eab35cf1139dc7a51f0f5ce5307a50619ef377d", func := "satrapy/satrapylaw19.LoadFades", spec := "loadFades", unfollowed := true, recurses := true, apart := false }
def LoadFadesSaid : Prop := loadFadesRow.holds Try.pinned (OpenSpec.ofChange loadFadesSpec)

/-- ITS FALSE NEIGHBOUR: 'it returns false'. Refute it at one input. -/
def loadFadesWrong : ChangeSpec := { name := "loadFades", fn := fun _ => fun
  | [d1, d2] => { results := [.lit (.bool false)], args := [d1, d2] }
  | _ => none }
def LoadFadesWrongFalsely : Prop := loadFadesRow.holds Try.pinned (OpenSpec.ofChange loadFadesWrong)

/-- 'satrapylaw20.PlanHot': WHATEVER THE INPUT: true; the input reads as it did. -/
def planHotSpec : ChangeSpec := { name := "planHot", fn := fun _ => fun
  | [d1, d2, d3] => { results := [.lit (.bool true)], args := [d1, d2, d3] }
  | _ => none }
def planHotRow : OpenClaim := { program := "ytljhlnpbomehkaa", sum := "7a374cf13785dffec1c942567eab35cf1139dc7a51f0f5ce5307a50619ef377d", func := "satrapy/satrapylaw20.PlanHot", spec := "planHot", unfollowed := true, recurses := true, apart := false }
def PlanHotSaid : Prop := planHotRow.holds Try.pinned (OpenSpec.ofChange planHotSpec)

/-- ITS FALSE NEIGHBOUR: 'it returns false'. Refute it at one input. -/
def planHotWrong : ChangeSpec := { name := "planHot", fn := fun _ => fun
  | [d1, d2, d3] => { results := [.lit (.bool false)], args := [d1, d2, d3] }
  | _ => none }
def PlanHotWrongFalsely : Prop := planHotRow.holds Try.pinned (OpenSpec.ofChange planHotWrong)

/-- 'satrapylaw20.PlanCold': WHATEVER THE INPUT: true; the input reads as it did. -/
def planColdSpec : ChangeSpec := { name := "planCold", fn := fun _ => fun
  | [d1, d2, d3, d4] => { results := [.lit (.bool true)], args := [d1, d2, d3, d4] }
  | _ => none }
def planColdRow : OpenClaim := { program := "ytljhlnpbomehkaa", sum := "7a374cf13785dffec1c942567eab35cf1139dc7a51f0f5ce5307a50619ef377d", func := "satrapy/satrapylaw20.PlanCold", spec := "planCold", unfollowed := true, recurses := true, apart := false }
def PlanColdSaid : Prop := planColdRow.holds Try.pinned (OpenSpec.ofChange planColdSpec)

/-- ITS FALSE NEIGHBOUR: 'it returns false'. Refute it at one input. -/
def planColdWrong : ChangeSpec := { name := "planCold", fn := fun _ => fun
  | [d1, d2, d3, d4] => { results := [.lit (.bool false)], args := [d1, d2, d3, d4] }
  | _ => none }
def PlanColdWrongFalsely : Prop := planColdRow.holds Try.pinned (OpenSpec.ofChange planColdWrong)

/- THE SECOND FORM. 'bulk': how many values and letters a reading holds, each counted each time it is reached (what is shared counts as often as it is met; a slice's spare places count too). A statement '..UptoSaid' is the law's where the arguments, and the package variables that the reading takes, are together of bulk at most 1048576: NARROWER than '..Said'. Prove '..Said' where nothing that the law and all that it calls make is longer than what came in: it says more and counts as full. Else prove '..UptoSaid'. A law counts once. -/
mutual
def uptoBulk {H : Type} : DataW H → Nat
  | .lit (.string bytes) => bytes.length + 1
  | .lit _ => 1
  | .nil => 1
  | .ptr d => uptoBulk d + 1
  | .slice elems spare => uptoBulkAll elems + uptoBulkAll spare + 1
  | .agg parts => uptoBulkAll parts + 1
  | .iface _ d => uptoBulk d + 1
  | .map entries => uptoBulkEntries entries + 1
  | .held _ => 1
def uptoBulkAll {H : Type} : List (DataW H) → Nat
  | [] => 0
  | d :: r => uptoBulk d + uptoBulkAll r
def uptoBulkEntries {H : Type} : List (Lit × DataW H) → Nat
  | [] => 0
  | x :: r => uptoBulkEntry x + uptoBulkEntries r
def uptoBulkEntry {H : Type} : Lit × DataW H → Nat
  | (.string bytes, d) => bytes.length + uptoBulk d + 1
  | (_, d) => uptoBulk d + 1
 end
def uptoSmall : (H : Type) → List (DataW H) → Bool := fun _ ds => decide (uptoBulkAll ds ≤ 1048576)
def OpenSpec.upto (s : _root_.Go.ChangeSpec) : _root_.Go.OpenSpec := { _root_.Go.OpenSpec.ofChange s with cond := some uptoSmall }

/-- 'satrapylaw19.LoadOfNothing', WHERE WHAT IT READS IS OF BULK AT MOST 1048576: true; the input reads as it did. -/
def loadOfNothingUptoRow : OpenClaim := { program := "ytljhlnpbomehkaa", sum := "7a374cf13785dffec1c942567eab35cf1139dc7a51f0f5ce5307a50619ef377d", func := "satrapy/satrapylaw19.LoadOfNothing", spec := "loadOfNothing", unfollowed := true, recurses := true, apart := false, narrowed := true }
def LoadOfNothingUptoSaid : Prop := loadOfNothingUptoRow.holds Try.pinned (OpenSpec.upto loadOfNothingSpec)

/-- 'satrapylaw19.LoadFades', WHERE WHAT IT READS IS OF BULK AT MOST 1048576: true; the input reads as it did. -/
def loadFadesUptoRow : OpenClaim := { program := "ytljhlnpbomehkaa", sum := "7a374cf13785dffec1c942567eab35cf1139dc7a51f0f5ce5307a50619ef377d", func := "satrapy/satrapylaw19.LoadFades", spec := "loadFades", unfollowed := true, recurses := true, apart := false, narrowed := true }
def LoadFadesUptoSaid : Prop := loadFadesUptoRow.holds Try.pinned (OpenSpec.upto loadFadesSpec)

/-- 'satrapylaw20.PlanHot', WHERE WHAT IT READS IS OF BULK AT MOST 1048576: true; the input reads as it did. -/
def planHotUptoRow : OpenClaim := { program := "ytljhlnpbomehkaa", sum := "7a374cf13785dffec1c942567eab35cf1139dc7a51f0f5ce5307a50619ef377d", func := "satrapy/satrapylaw20.PlanHot", spec := "planHot", unfollowed := true, recurses := true, apart := false, narrowed := true }
def PlanHotUptoSaid : Prop := planHotUptoRow.holds Try.pinned (OpenSpec.upto planHotSpec)

/-- 'satrapylaw20.PlanCold', WHERE WHAT IT READS IS OF BULK AT MOST 1048576: true; the input reads as it did. -/
def planColdUptoRow : OpenClaim := { program := "ytljhlnpbomehkaa", sum := "7a374cf13785dffec1c942567eab35cf1139dc7a51f0f5ce5307a50619ef377d", func := "satrapy/satrapylaw20.PlanCold", spec := "planCold", unfollowed := true, recurses := true, apart := false, narrowed := true }
def PlanColdUptoSaid : Prop := planColdUptoRow.holds Try.pinned (OpenSpec.upto planColdSpec)

end Rows
end Go.Proofs.Ytljhlnpbomehkaa
