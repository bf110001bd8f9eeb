/- satrapy/satrapylaw25.known: in parts: the parts (0). -/
import Derived.Test.YteibnmohoclocaaDoorGateKD
import Derived.Test.YteibnmohoclocaaDoorEwM8
import Derived.ProofKit
namespace Go.Proofs.YteibnmohoclocaaDoor
open Go.RowKit
set_option linter.unusedVariables false
set_option linter.unusedSimpArgs false
set_option maxRecDepth 100000

theorem gateKE16_ok  : EnFOK Tryd.prog SQG gateKE16 := EnFOK.of_fast evMixed evNames gateKOrc_ok (tableL_self _) (tabE_ok (es := []) allNil) (n := 90) (fuel := 100000) (fun s t => rfl) (fun s t => by kernel_rfl)
end Go.Proofs.YteibnmohoclocaaDoor
