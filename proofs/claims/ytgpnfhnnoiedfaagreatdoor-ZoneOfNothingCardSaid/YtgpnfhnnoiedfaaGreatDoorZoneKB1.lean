/- satrapy/satrapylaw15.known: in parts: the parts (1). -/
import Derived.Test.YtgpnfhnnoiedfaaGreatDoorZoneKD
import Derived.Test.YtgpnfhnnoiedfaaGreatDoorEwM8
import Derived.Test.YtgpnfhnnoiedfaaGreatDoorSortedAt2
import Derived.ProofKit
namespace Go.Proofs.YtgpnfhnnoiedfaaGreatDoor
open Go.RowKit
set_option linter.unusedVariables false
set_option linter.unusedSimpArgs false
set_option maxRecDepth 100000

theorem zoneKE306_ok  : EnFOK Tryz.prog SQG zoneKE306 := EnFOK.of_fast evMixed evNames zoneKOrc_ok (tableL_self _) (tabE_ok (es := []) allNil) (n := 90) (fuel := 100000) (fun s t => rfl) (fun s t => by kernel_rfl)
end Go.Proofs.YtgpnfhnnoiedfaaGreatDoor
