/- satrapy/satrapylaw20.known: in parts: the parts (2). -/
import Derived.Test.YtljhlnpbomehkaaPlanKD
import Derived.Test.YtljhlnpbomehkaaEwM8
import Derived.ProofKit
namespace Go.Proofs.Ytljhlnpbomehkaa
open Go.RowKit
set_option linter.unusedVariables false
set_option linter.unusedSimpArgs false
set_option maxRecDepth 100000

theorem planKE1_ok (h41 : EnOK Try.prog SQN planKE41) (h144 : EnOK Try.prog SQN planKE144) : EnOK Try.prog SQN planKE1 := EnOK.of_fast evMixed evNames planKOrc_ok (tableL_self _) (tabE0_ok (es := [planKE41, planKE144]) (allCons h41 (allCons h144 allNil))) (n := 90) (fuel := 100000) (by kernel_rfl)
end Go.Proofs.Ytljhlnpbomehkaa
