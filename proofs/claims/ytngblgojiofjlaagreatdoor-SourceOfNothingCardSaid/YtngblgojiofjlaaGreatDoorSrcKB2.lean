/- satrapy/satrapylaw22.known: in parts: the parts (2). -/
import Derived.Test.YtngblgojiofjlaaGreatDoorSrcKD
import Derived.Test.YtngblgojiofjlaaGreatDoorEwM8
import Derived.Test.YtngblgojiofjlaaGreatDoorSortedAt2
import Derived.ProofKit
namespace Go.Proofs.YtngblgojiofjlaaGreatDoor
open Go.RowKit
set_option linter.unusedVariables false
set_option linter.unusedSimpArgs false
set_option maxRecDepth 100000

theorem srcKE1_ok (h58 : EnFOK Tryz.prog SQG srcKE58) (h150 : EnFOK Tryz.prog SQG srcKE150) : EnFOK Tryz.prog SQG srcKE1 := EnFOK.of_fast evMixed evNames srcKOrc_ok (tableL_self _) (tabE_ok (es := [srcKE58, srcKE150]) (allCons h58 (allCons h150 allNil))) (n := 90) (fuel := 100000) (fun s t => rfl) (fun s t => by kernel_rfl)
end Go.Proofs.YtngblgojiofjlaaGreatDoor
