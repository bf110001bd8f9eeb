/- satrapy/satrapylaw22.known: in parts: the parts (0). -/
import Derived.Test.YtngblgojiofjlaaGreatDoorSrcKD
import Derived.Test.YtngblgojiofjlaaGreatDoorEwM8
import Derived.Test.YtngblgojiofjlaaGreatDoorSortedAt2
import Derived.ProofKit
namespace Go.Proofs.YtngblgojiofjlaaGreatDoor
open Go.RowKit
set_option linter.unusedVariables false
set_option linter.unusedSimpArgs false
set_option maxRecDepth 100000

theorem srcKE58_ok  : EnFOK Tryz.prog SQG srcKE58 := EnFOK.of_fast evMixed evNames srcKOrc_ok (tableL_self _) (tabE_ok (es := []) allNil) (n := 90) (fuel := 100000) (fun s t => rfl) (fun s t => by kernel_rfl)
end Go.Proofs.YtngblgojiofjlaaGreatDoor
