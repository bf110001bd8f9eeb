/- satrapy/satrapylaw25.GateRounds: in parts: the parts (0). -/
import Derived.Test.YteibnmohoclocaaDoorGateR1D
import Derived.Test.YteibnmohoclocaaDoorEwM9
import Derived.Test.YteibnmohoclocaaDoorGateKD
import Derived.ProofKit
namespace Go.Proofs.YteibnmohoclocaaDoor
open Go.RowKit
set_option linter.unusedVariables false
set_option linter.unusedSimpArgs false
set_option maxRecDepth 100000

theorem gateR1E2133_ok  : EnFOK Tryd.prog SQG gateR1E2133 := EnFOK.of_fastD evMixed evNames gateR1Orc_ok (tableL_self _) (tabE_ok (es := []) allNil) (n := 90) (fuel := 100000) (fun s t => rfl) (fun s t => by kernel_rfl)
theorem gateR1E1914_ok  : EnFOK Tryd.prog SQG gateR1E1914 := EnFOK.of_fastD evMixed evNames gateR1Orc_ok (tableL_self _) (tabE_ok (es := []) allNil) (n := 90) (fuel := 100000) (fun s t => rfl) (fun s t => by kernel_rfl)
theorem gateR1E1987_ok  : EnFOK Tryd.prog SQG gateR1E1987 := EnFOK.of_fastD evMixed evNames gateR1Orc_ok (tableL_self _) (tabE_ok (es := []) allNil) (n := 90) (fuel := 100000) (fun s t => rfl) (fun s t => by kernel_rfl)
theorem gateR1E2060_ok  : EnFOK Tryd.prog SQG gateR1E2060 := EnFOK.of_fastD evMixed evNames gateR1Orc_ok (tableL_self _) (tabE_ok (es := []) allNil) (n := 90) (fuel := 100000) (fun s t => rfl) (fun s t => by kernel_rfl)
theorem gateR1E1622_ok  : EnFOK Tryd.prog SQG gateR1E1622 := EnFOK.of_fastD evMixed evNames gateR1Orc_ok (tableL_self _) (tabE_ok (es := []) allNil) (n := 90) (fuel := 100000) (fun s t => rfl) (fun s t => by kernel_rfl)
theorem gateR1E1768_ok  : EnFOK Tryd.prog SQG gateR1E1768 := EnFOK.of_fastD evMixed evNames gateR1Orc_ok (tableL_self _) (tabE_ok (es := []) allNil) (n := 90) (fuel := 100000) (fun s t => rfl) (fun s t => by kernel_rfl)
theorem gateR1E1841_ok  : EnFOK Tryd.prog SQG gateR1E1841 := EnFOK.of_fastD evMixed evNames gateR1Orc_ok (tableL_self _) (tabE_ok (es := []) allNil) (n := 90) (fuel := 100000) (fun s t => rfl) (fun s t => by kernel_rfl)
theorem gateR1E1695_ok  : EnFOK Tryd.prog SQG gateR1E1695 := EnFOK.of_fastD evMixed evNames gateR1Orc_ok (tableL_self _) (tabE_ok (es := []) allNil) (n := 90) (fuel := 100000) (fun s t => rfl) (fun s t => by kernel_rfl)
theorem gateR1E1549_ok  : EnFOK Tryd.prog SQG gateR1E1549 := EnFOK.of_fastD evMixed evNames gateR1Orc_ok (tableL_self _) (tabE_ok (es := []) allNil) (n := 90) (fuel := 100000) (fun s t => rfl) (fun s t => by kernel_rfl)
theorem gateR1E1111_ok  : EnFOK Tryd.prog SQG gateR1E1111 := EnFOK.of_fastD evMixed evNames gateR1Orc_ok (tableL_self _) (tabE_ok (es := []) allNil) (n := 90) (fuel := 100000) (fun s t => rfl) (fun s t => by kernel_rfl)
theorem gateR1E1476_ok  : EnFOK Tryd.prog SQG gateR1E1476 := EnFOK.of_fastD evMixed evNames gateR1Orc_ok (tableL_self _) (tabE_ok (es := []) allNil) (n := 90) (fuel := 100000) (fun s t => rfl) (fun s t => by kernel_rfl)
theorem gateR1E1403_ok  : EnFOK Tryd.prog SQG gateR1E1403 := EnFOK.of_fastD evMixed evNames gateR1Orc_ok (tableL_self _) (tabE_ok (es := []) allNil) (n := 90) (fuel := 100000) (fun s t => rfl) (fun s t => by kernel_rfl)
theorem gateR1E746_ok  : EnFOK Tryd.prog SQG gateR1E746 := EnFOK.of_fastD evMixed evNames gateR1Orc_ok (tableL_self _) (tabE_ok (es := []) allNil) (n := 90) (fuel := 100000) (fun s t => rfl) (fun s t => by kernel_rfl)
theorem gateR1E1330_ok  : EnFOK Tryd.prog SQG gateR1E1330 := EnFOK.of_fastD evMixed evNames gateR1Orc_ok (tableL_self _) (tabE_ok (es := []) allNil) (n := 90) (fuel := 100000) (fun s t => rfl) (fun s t => by kernel_rfl)
theorem gateR1E1257_ok  : EnFOK Tryd.prog SQG gateR1E1257 := EnFOK.of_fastD evMixed evNames gateR1Orc_ok (tableL_self _) (tabE_ok (es := []) allNil) (n := 90) (fuel := 100000) (fun s t => rfl) (fun s t => by kernel_rfl)
theorem gateR1E1184_ok  : EnFOK Tryd.prog SQG gateR1E1184 := EnFOK.of_fastD evMixed evNames gateR1Orc_ok (tableL_self _) (tabE_ok (es := []) allNil) (n := 90) (fuel := 100000) (fun s t => rfl) (fun s t => by kernel_rfl)
theorem gateR1E454_ok  : EnFOK Tryd.prog SQG gateR1E454 := EnFOK.of_fastD evMixed evNames gateR1Orc_ok (tableL_self _) (tabE_ok (es := []) allNil) (n := 90) (fuel := 100000) (fun s t => rfl) (fun s t => by kernel_rfl)
theorem gateR1E819_ok  : EnFOK Tryd.prog SQG gateR1E819 := EnFOK.of_fastD evMixed evNames gateR1Orc_ok (tableL_self _) (tabE_ok (es := []) allNil) (n := 90) (fuel := 100000) (fun s t => rfl) (fun s t => by kernel_rfl)
theorem gateR1E892_ok  : EnFOK Tryd.prog SQG gateR1E892 := EnFOK.of_fastD evMixed evNames gateR1Orc_ok (tableL_self _) (tabE_ok (es := []) allNil) (n := 90) (fuel := 100000) (fun s t => rfl) (fun s t => by kernel_rfl)
theorem gateR1E381_ok  : EnFOK Tryd.prog SQG gateR1E381 := EnFOK.of_fastD evMixed evNames gateR1Orc_ok (tableL_self _) (tabE_ok (es := []) allNil) (n := 90) (fuel := 100000) (fun s t => rfl) (fun s t => by kernel_rfl)
theorem gateR1E965_ok  : EnFOK Tryd.prog SQG gateR1E965 := EnFOK.of_fastD evMixed evNames gateR1Orc_ok (tableL_self _) (tabE_ok (es := []) allNil) (n := 90) (fuel := 100000) (fun s t => rfl) (fun s t => by kernel_rfl)
theorem gateR1E235_ok  : EnFOK Tryd.prog SQG gateR1E235 := EnFOK.of_fastD evMixed evNames gateR1Orc_ok (tableL_self _) (tabE_ok (es := []) allNil) (n := 90) (fuel := 100000) (fun s t => rfl) (fun s t => by kernel_rfl)
theorem gateR1E1038_ok  : EnFOK Tryd.prog SQG gateR1E1038 := EnFOK.of_fastD evMixed evNames gateR1Orc_ok (tableL_self _) (tabE_ok (es := []) allNil) (n := 90) (fuel := 100000) (fun s t => rfl) (fun s t => by kernel_rfl)
theorem gateR1E527_ok  : EnFOK Tryd.prog SQG gateR1E527 := EnFOK.of_fastD evMixed evNames gateR1Orc_ok (tableL_self _) (tabE_ok (es := []) allNil) (n := 90) (fuel := 100000) (fun s t => rfl) (fun s t => by kernel_rfl)
theorem gateR1E673_ok  : EnFOK Tryd.prog SQG gateR1E673 := EnFOK.of_fastD evMixed evNames gateR1Orc_ok (tableL_self _) (tabE_ok (es := []) allNil) (n := 90) (fuel := 100000) (fun s t => rfl) (fun s t => by kernel_rfl)
theorem gateR1E600_ok  : EnFOK Tryd.prog SQG gateR1E600 := EnFOK.of_fastD evMixed evNames gateR1Orc_ok (tableL_self _) (tabE_ok (es := []) allNil) (n := 90) (fuel := 100000) (fun s t => rfl) (fun s t => by kernel_rfl)
theorem gateR1E308_ok  : EnFOK Tryd.prog SQG gateR1E308 := EnFOK.of_fastD evMixed evNames gateR1Orc_ok (tableL_self _) (tabE_ok (es := []) allNil) (n := 90) (fuel := 100000) (fun s t => rfl) (fun s t => by kernel_rfl)
theorem gateR1E16_ok  : EnFOK Tryd.prog SQG gateR1E16 := EnFOK.of_fastD evMixed evNames gateR1Orc_ok (tableL_self _) (tabE_ok (es := []) allNil) (n := 90) (fuel := 100000) (fun s t => rfl) (fun s t => by kernel_rfl)
theorem gateR1E89_ok  : EnFOK Tryd.prog SQG gateR1E89 := EnFOK.of_fastD evMixed evNames gateR1Orc_ok (tableL_self _) (tabE_ok (es := []) allNil) (n := 90) (fuel := 100000) (fun s t => rfl) (fun s t => by kernel_rfl)
theorem gateR1E162_ok  : EnFOK Tryd.prog SQG gateR1E162 := EnFOK.of_fastD evMixed evNames gateR1Orc_ok (tableL_self _) (tabE_ok (es := []) allNil) (n := 90) (fuel := 100000) (fun s t => rfl) (fun s t => by kernel_rfl)
theorem gateR1E3_ok  : EnFOK Tryd.prog SQG gateR1E3 := EnFOK.of_fastD evMixed evNames gateR1Orc_ok (tableL_self _) (tabE_ok (es := []) allNil) (n := 90) (fuel := 100000) (fun s t => rfl) (fun s t => by kernel_rfl)
end Go.Proofs.YteibnmohoclocaaDoor
