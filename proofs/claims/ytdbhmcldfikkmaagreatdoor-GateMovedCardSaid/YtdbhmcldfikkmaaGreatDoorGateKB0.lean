/- satrapy/satrapylaw25.known: in parts: the parts (0). -/
import Derived.Test.YtdbhmcldfikkmaaGreatDoorGateKD
import Derived.Test.YtdbhmcldfikkmaaGreatDoorEwM8
import Derived.ProofKit
namespace Go.Proofs.YtdbhmcldfikkmaaGreatDoor
open Go.RowKit
set_option linter.unusedVariables false
set_option linter.unusedSimpArgs false
set_option maxRecDepth 100000

theorem gateKE16_ok  : EnFOK Tryz.prog SQG gateKE16 := EnFOK.of_fast evMixed evNames gateKOrc_ok (tableL_self _) (tabE_ok (es := []) allNil) (n := 90) (fuel := 100000) (fun s t => rfl) (fun s t => by kernel_rfl)
end Go.Proofs.YtdbhmcldfikkmaaGreatDoor
