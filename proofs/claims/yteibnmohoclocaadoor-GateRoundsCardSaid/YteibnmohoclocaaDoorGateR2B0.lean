/- satrapy/satrapylaw25.GateRounds: in parts: the parts (0). -/
import Derived.Test.YteibnmohoclocaaDoorGateR2D
import Derived.Test.YteibnmohoclocaaDoorEwM9
import Derived.Test.YteibnmohoclocaaDoorGateKD
import Derived.ProofKit
namespace Go.Proofs.YteibnmohoclocaaDoor
open Go.RowKit
set_option linter.unusedVariables false
set_option linter.unusedSimpArgs false
set_option maxRecDepth 100000

theorem gateR2E1987_ok  : EnFOK Tryd.prog SQG gateR2E1987 := EnFOK.of_fastD evMixed evNames gateR2Orc_ok (tableL_self _) (tabE_ok (es := []) allNil) (n := 90) (fuel := 100000) (fun s t => rfl) (fun s t => by kernel_rfl)
theorem gateR2E1695_ok  : EnFOK Tryd.prog SQG gateR2E1695 := EnFOK.of_fastD evMixed evNames gateR2Orc_ok (tableL_self _) (tabE_ok (es := []) allNil) (n := 90) (fuel := 100000) (fun s t => rfl) (fun s t => by kernel_rfl)
theorem gateR2E1184_ok  : EnFOK Tryd.prog SQG gateR2E1184 := EnFOK.of_fastD evMixed evNames gateR2Orc_ok (tableL_self _) (tabE_ok (es := []) allNil) (n := 90) (fuel := 100000) (fun s t => rfl) (fun s t => by kernel_rfl)
theorem gateR2E1476_ok  : EnFOK Tryd.prog SQG gateR2E1476 := EnFOK.of_fastD evMixed evNames gateR2Orc_ok (tableL_self _) (tabE_ok (es := []) allNil) (n := 90) (fuel := 100000) (fun s t => rfl) (fun s t => by kernel_rfl)
theorem gateR2E2060_ok  : EnFOK Tryd.prog SQG gateR2E2060 := EnFOK.of_fastD evMixed evNames gateR2Orc_ok (tableL_self _) (tabE_ok (es := []) allNil) (n := 90) (fuel := 100000) (fun s t => rfl) (fun s t => by kernel_rfl)
theorem gateR2E1038_ok  : EnFOK Tryd.prog SQG gateR2E1038 := EnFOK.of_fastD evMixed evNames gateR2Orc_ok (tableL_self _) (tabE_ok (es := []) allNil) (n := 90) (fuel := 100000) (fun s t => rfl) (fun s t => by kernel_rfl)
theorem gateR2E1914_ok  : EnFOK Tryd.prog SQG gateR2E1914 := EnFOK.of_fastD evMixed evNames gateR2Orc_ok (tableL_self _) (tabE_ok (es := []) allNil) (n := 90) (fuel := 100000) (fun s t => rfl) (fun s t => by kernel_rfl)
theorem gateR2E965_ok  : EnFOK Tryd.prog SQG gateR2E965 := EnFOK.of_fastD evMixed evNames gateR2Orc_ok (tableL_self _) (tabE_ok (es := []) allNil) (n := 90) (fuel := 100000) (fun s t => rfl) (fun s t => by kernel_rfl)
theorem gateR2E1768_ok  : EnFOK Tryd.prog SQG gateR2E1768 := EnFOK.of_fastD evMixed evNames gateR2Orc_ok (tableL_self _) (tabE_ok (es := []) allNil) (n := 90) (fuel := 100000) (fun s t => rfl) (fun s t => by kernel_rfl)
theorem gateR2E1549_ok  : EnFOK Tryd.prog SQG gateR2E1549 := EnFOK.of_fastD evMixed evNames gateR2Orc_ok (tableL_self _) (tabE_ok (es := []) allNil) (n := 90) (fuel := 100000) (fun s t => rfl) (fun s t => by kernel_rfl)
theorem gateR2E1403_ok  : EnFOK Tryd.prog SQG gateR2E1403 := EnFOK.of_fastD evMixed evNames gateR2Orc_ok (tableL_self _) (tabE_ok (es := []) allNil) (n := 90) (fuel := 100000) (fun s t => rfl) (fun s t => by kernel_rfl)
theorem gateR2E1841_ok  : EnFOK Tryd.prog SQG gateR2E1841 := EnFOK.of_fastD evMixed evNames gateR2Orc_ok (tableL_self _) (tabE_ok (es := []) allNil) (n := 90) (fuel := 100000) (fun s t => rfl) (fun s t => by kernel_rfl)
theorem gateR2E1111_ok  : EnFOK Tryd.prog SQG gateR2E1111 := EnFOK.of_fastD evMixed evNames gateR2Orc_ok (tableL_self _) (tabE_ok (es := []) allNil) (n := 90) (fuel := 100000) (fun s t => rfl) (fun s t => by kernel_rfl)
theorem gateR2E2133_ok  : EnFOK Tryd.prog SQG gateR2E2133 := EnFOK.of_fastD evMixed evNames gateR2Orc_ok (tableL_self _) (tabE_ok (es := []) allNil) (n := 90) (fuel := 100000) (fun s t => rfl) (fun s t => by kernel_rfl)
theorem gateR2E892_ok  : EnFOK Tryd.prog SQG gateR2E892 := EnFOK.of_fastD evMixed evNames gateR2Orc_ok (tableL_self _) (tabE_ok (es := []) allNil) (n := 90) (fuel := 100000) (fun s t => rfl) (fun s t => by kernel_rfl)
theorem gateR2E1622_ok  : EnFOK Tryd.prog SQG gateR2E1622 := EnFOK.of_fastD evMixed evNames gateR2Orc_ok (tableL_self _) (tabE_ok (es := []) allNil) (n := 90) (fuel := 100000) (fun s t => rfl) (fun s t => by kernel_rfl)
theorem gateR2E1330_ok  : EnFOK Tryd.prog SQG gateR2E1330 := EnFOK.of_fastD evMixed evNames gateR2Orc_ok (tableL_self _) (tabE_ok (es := []) allNil) (n := 90) (fuel := 100000) (fun s t => rfl) (fun s t => by kernel_rfl)
theorem gateR2E1257_ok  : EnFOK Tryd.prog SQG gateR2E1257 := EnFOK.of_fastD evMixed evNames gateR2Orc_ok (tableL_self _) (tabE_ok (es := []) allNil) (n := 90) (fuel := 100000) (fun s t => rfl) (fun s t => by kernel_rfl)
theorem gateR2E819_ok  : EnFOK Tryd.prog SQG gateR2E819 := EnFOK.of_fastD evMixed evNames gateR2Orc_ok (tableL_self _) (tabE_ok (es := []) allNil) (n := 90) (fuel := 100000) (fun s t => rfl) (fun s t => by kernel_rfl)
theorem gateR2E746_ok  : EnFOK Tryd.prog SQG gateR2E746 := EnFOK.of_fastD evMixed evNames gateR2Orc_ok (tableL_self _) (tabE_ok (es := []) allNil) (n := 90) (fuel := 100000) (fun s t => rfl) (fun s t => by kernel_rfl)
theorem gateR2E527_ok  : EnFOK Tryd.prog SQG gateR2E527 := EnFOK.of_fastD evMixed evNames gateR2Orc_ok (tableL_self _) (tabE_ok (es := []) allNil) (n := 90) (fuel := 100000) (fun s t => rfl) (fun s t => by kernel_rfl)
theorem gateR2E16_ok  : EnFOK Tryd.prog SQG gateR2E16 := EnFOK.of_fastD evMixed evNames gateR2Orc_ok (tableL_self _) (tabE_ok (es := []) allNil) (n := 90) (fuel := 100000) (fun s t => rfl) (fun s t => by kernel_rfl)
theorem gateR2E600_ok  : EnFOK Tryd.prog SQG gateR2E600 := EnFOK.of_fastD evMixed evNames gateR2Orc_ok (tableL_self _) (tabE_ok (es := []) allNil) (n := 90) (fuel := 100000) (fun s t => rfl) (fun s t => by kernel_rfl)
theorem gateR2E673_ok  : EnFOK Tryd.prog SQG gateR2E673 := EnFOK.of_fastD evMixed evNames gateR2Orc_ok (tableL_self _) (tabE_ok (es := []) allNil) (n := 90) (fuel := 100000) (fun s t => rfl) (fun s t => by kernel_rfl)
theorem gateR2E454_ok  : EnFOK Tryd.prog SQG gateR2E454 := EnFOK.of_fastD evMixed evNames gateR2Orc_ok (tableL_self _) (tabE_ok (es := []) allNil) (n := 90) (fuel := 100000) (fun s t => rfl) (fun s t => by kernel_rfl)
theorem gateR2E381_ok  : EnFOK Tryd.prog SQG gateR2E381 := EnFOK.of_fastD evMixed evNames gateR2Orc_ok (tableL_self _) (tabE_ok (es := []) allNil) (n := 90) (fuel := 100000) (fun s t => rfl) (fun s t => by kernel_rfl)
theorem gateR2E162_ok  : EnFOK Tryd.prog SQG gateR2E162 := EnFOK.of_fastD evMixed evNames gateR2Orc_ok (tableL_self _) (tabE_ok (es := []) allNil) (n := 90) (fuel := 100000) (fun s t => rfl) (fun s t => by kernel_rfl)
theorem gateR2E235_ok  : EnFOK Tryd.prog SQG gateR2E235 := EnFOK.of_fastD evMixed evNames gateR2Orc_ok (tableL_self _) (tabE_ok (es := []) allNil) (n := 90) (fuel := 100000) (fun s t => rfl) (fun s t => by kernel_rfl)
theorem gateR2E308_ok  : EnFOK Tryd.prog SQG gateR2E308 := EnFOK.of_fastD evMixed evNames gateR2Orc_ok (tableL_self _) (tabE_ok (es := []) allNil) (n := 90) (fuel := 100000) (fun s t => rfl) (fun s t => by kernel_rfl)
theorem gateR2E89_ok  : EnFOK Tryd.prog SQG gateR2E89 := EnFOK.of_fastD evMixed evNames gateR2Orc_ok (tableL_self _) (tabE_ok (es := []) allNil) (n := 90) (fuel := 100000) (fun s t => rfl) (fun s t => by kernel_rfl)
theorem gateR2E3_ok  : EnFOK Tryd.prog SQG gateR2E3 := EnFOK.of_fastD evMixed evNames gateR2Orc_ok (tableL_self _) (tabE_ok (es := []) allNil) (n := 90) (fuel := 100000) (fun s t => rfl) (fun s t => by kernel_rfl)
end Go.Proofs.YteibnmohoclocaaDoor
