/- satrapy/satrapylaw25.GateRounds: in parts: the parts (0). -/
import Derived.Test.YteibnmohoclocaaDoorGateR3D
import Derived.Test.YteibnmohoclocaaDoorEwM9
import Derived.Test.YteibnmohoclocaaDoorGateKD
import Derived.ProofKit
namespace Go.Proofs.YteibnmohoclocaaDoor
open Go.RowKit
set_option linter.unusedVariables false
set_option linter.unusedSimpArgs false
set_option maxRecDepth 100000

theorem gateR3E2060_ok  : EnFOK Tryd.prog SQG gateR3E2060 := EnFOK.of_fastD evMixed evNames gateR3Orc_ok (tableL_self _) (tabE_ok (es := []) allNil) (n := 90) (fuel := 100000) (fun s t => rfl) (fun s t => by kernel_rfl)
theorem gateR3E819_ok  : EnFOK Tryd.prog SQG gateR3E819 := EnFOK.of_fastD evMixed evNames gateR3Orc_ok (tableL_self _) (tabE_ok (es := []) allNil) (n := 90) (fuel := 100000) (fun s t => rfl) (fun s t => by kernel_rfl)
theorem gateR3E892_ok  : EnFOK Tryd.prog SQG gateR3E892 := EnFOK.of_fastD evMixed evNames gateR3Orc_ok (tableL_self _) (tabE_ok (es := []) allNil) (n := 90) (fuel := 100000) (fun s t => rfl) (fun s t => by kernel_rfl)
theorem gateR3E235_ok  : EnFOK Tryd.prog SQG gateR3E235 := EnFOK.of_fastD evMixed evNames gateR3Orc_ok (tableL_self _) (tabE_ok (es := []) allNil) (n := 90) (fuel := 100000) (fun s t => rfl) (fun s t => by kernel_rfl)
theorem gateR3E1111_ok  : EnFOK Tryd.prog SQG gateR3E1111 := EnFOK.of_fastD evMixed evNames gateR3Orc_ok (tableL_self _) (tabE_ok (es := []) allNil) (n := 90) (fuel := 100000) (fun s t => rfl) (fun s t => by kernel_rfl)
theorem gateR3E1257_ok  : EnFOK Tryd.prog SQG gateR3E1257 := EnFOK.of_fastD evMixed evNames gateR3Orc_ok (tableL_self _) (tabE_ok (es := []) allNil) (n := 90) (fuel := 100000) (fun s t => rfl) (fun s t => by kernel_rfl)
theorem gateR3E2133_ok  : EnFOK Tryd.prog SQG gateR3E2133 := EnFOK.of_fastD evMixed evNames gateR3Orc_ok (tableL_self _) (tabE_ok (es := []) allNil) (n := 90) (fuel := 100000) (fun s t => rfl) (fun s t => by kernel_rfl)
theorem gateR3E1549_ok  : EnFOK Tryd.prog SQG gateR3E1549 := EnFOK.of_fastD evMixed evNames gateR3Orc_ok (tableL_self _) (tabE_ok (es := []) allNil) (n := 90) (fuel := 100000) (fun s t => rfl) (fun s t => by kernel_rfl)
theorem gateR3E673_ok  : EnFOK Tryd.prog SQG gateR3E673 := EnFOK.of_fastD evMixed evNames gateR3Orc_ok (tableL_self _) (tabE_ok (es := []) allNil) (n := 90) (fuel := 100000) (fun s t => rfl) (fun s t => by kernel_rfl)
theorem gateR3E746_ok  : EnFOK Tryd.prog SQG gateR3E746 := EnFOK.of_fastD evMixed evNames gateR3Orc_ok (tableL_self _) (tabE_ok (es := []) allNil) (n := 90) (fuel := 100000) (fun s t => rfl) (fun s t => by kernel_rfl)
theorem gateR3E1330_ok  : EnFOK Tryd.prog SQG gateR3E1330 := EnFOK.of_fastD evMixed evNames gateR3Orc_ok (tableL_self _) (tabE_ok (es := []) allNil) (n := 90) (fuel := 100000) (fun s t => rfl) (fun s t => by kernel_rfl)
theorem gateR3E162_ok  : EnFOK Tryd.prog SQG gateR3E162 := EnFOK.of_fastD evMixed evNames gateR3Orc_ok (tableL_self _) (tabE_ok (es := []) allNil) (n := 90) (fuel := 100000) (fun s t => rfl) (fun s t => by kernel_rfl)
theorem gateR3E1184_ok  : EnFOK Tryd.prog SQG gateR3E1184 := EnFOK.of_fastD evMixed evNames gateR3Orc_ok (tableL_self _) (tabE_ok (es := []) allNil) (n := 90) (fuel := 100000) (fun s t => rfl) (fun s t => by kernel_rfl)
theorem gateR3E1038_ok  : EnFOK Tryd.prog SQG gateR3E1038 := EnFOK.of_fastD evMixed evNames gateR3Orc_ok (tableL_self _) (tabE_ok (es := []) allNil) (n := 90) (fuel := 100000) (fun s t => rfl) (fun s t => by kernel_rfl)
theorem gateR3E527_ok  : EnFOK Tryd.prog SQG gateR3E527 := EnFOK.of_fastD evMixed evNames gateR3Orc_ok (tableL_self _) (tabE_ok (es := []) allNil) (n := 90) (fuel := 100000) (fun s t => rfl) (fun s t => by kernel_rfl)
theorem gateR3E1476_ok  : EnFOK Tryd.prog SQG gateR3E1476 := EnFOK.of_fastD evMixed evNames gateR3Orc_ok (tableL_self _) (tabE_ok (es := []) allNil) (n := 90) (fuel := 100000) (fun s t => rfl) (fun s t => by kernel_rfl)
theorem gateR3E1403_ok  : EnFOK Tryd.prog SQG gateR3E1403 := EnFOK.of_fastD evMixed evNames gateR3Orc_ok (tableL_self _) (tabE_ok (es := []) allNil) (n := 90) (fuel := 100000) (fun s t => rfl) (fun s t => by kernel_rfl)
theorem gateR3E1987_ok  : EnFOK Tryd.prog SQG gateR3E1987 := EnFOK.of_fastD evMixed evNames gateR3Orc_ok (tableL_self _) (tabE_ok (es := []) allNil) (n := 90) (fuel := 100000) (fun s t => rfl) (fun s t => by kernel_rfl)
theorem gateR3E1768_ok  : EnFOK Tryd.prog SQG gateR3E1768 := EnFOK.of_fastD evMixed evNames gateR3Orc_ok (tableL_self _) (tabE_ok (es := []) allNil) (n := 90) (fuel := 100000) (fun s t => rfl) (fun s t => by kernel_rfl)
theorem gateR3E965_ok  : EnFOK Tryd.prog SQG gateR3E965 := EnFOK.of_fastD evMixed evNames gateR3Orc_ok (tableL_self _) (tabE_ok (es := []) allNil) (n := 90) (fuel := 100000) (fun s t => rfl) (fun s t => by kernel_rfl)
theorem gateR3E1622_ok  : EnFOK Tryd.prog SQG gateR3E1622 := EnFOK.of_fastD evMixed evNames gateR3Orc_ok (tableL_self _) (tabE_ok (es := []) allNil) (n := 90) (fuel := 100000) (fun s t => rfl) (fun s t => by kernel_rfl)
theorem gateR3E1914_ok  : EnFOK Tryd.prog SQG gateR3E1914 := EnFOK.of_fastD evMixed evNames gateR3Orc_ok (tableL_self _) (tabE_ok (es := []) allNil) (n := 90) (fuel := 100000) (fun s t => rfl) (fun s t => by kernel_rfl)
theorem gateR3E600_ok  : EnFOK Tryd.prog SQG gateR3E600 := EnFOK.of_fastD evMixed evNames gateR3Orc_ok (tableL_self _) (tabE_ok (es := []) allNil) (n := 90) (fuel := 100000) (fun s t => rfl) (fun s t => by kernel_rfl)
theorem gateR3E1695_ok  : EnFOK Tryd.prog SQG gateR3E1695 := EnFOK.of_fastD evMixed evNames gateR3Orc_ok (tableL_self _) (tabE_ok (es := []) allNil) (n := 90) (fuel := 100000) (fun s t => rfl) (fun s t => by kernel_rfl)
theorem gateR3E1841_ok  : EnFOK Tryd.prog SQG gateR3E1841 := EnFOK.of_fastD evMixed evNames gateR3Orc_ok (tableL_self _) (tabE_ok (es := []) allNil) (n := 90) (fuel := 100000) (fun s t => rfl) (fun s t => by kernel_rfl)
theorem gateR3E454_ok  : EnFOK Tryd.prog SQG gateR3E454 := EnFOK.of_fastD evMixed evNames gateR3Orc_ok (tableL_self _) (tabE_ok (es := []) allNil) (n := 90) (fuel := 100000) (fun s t => rfl) (fun s t => by kernel_rfl)
theorem gateR3E381_ok  : EnFOK Tryd.prog SQG gateR3E381 := EnFOK.of_fastD evMixed evNames gateR3Orc_ok (tableL_self _) (tabE_ok (es := []) allNil) (n := 90) (fuel := 100000) (fun s t => rfl) (fun s t => by kernel_rfl)
theorem gateR3E16_ok  : EnFOK Tryd.prog SQG gateR3E16 := EnFOK.of_fastD evMixed evNames gateR3Orc_ok (tableL_self _) (tabE_ok (es := []) allNil) (n := 90) (fuel := 100000) (fun s t => rfl) (fun s t => by kernel_rfl)
theorem gateR3E89_ok  : EnFOK Tryd.prog SQG gateR3E89 := EnFOK.of_fastD evMixed evNames gateR3Orc_ok (tableL_self _) (tabE_ok (es := []) allNil) (n := 90) (fuel := 100000) (fun s t => rfl) (fun s t => by kernel_rfl)
theorem gateR3E308_ok  : EnFOK Tryd.prog SQG gateR3E308 := EnFOK.of_fastD evMixed evNames gateR3Orc_ok (tableL_self _) (tabE_ok (es := []) allNil) (n := 90) (fuel := 100000) (fun s t => rfl) (fun s t => by kernel_rfl)
theorem gateR3E3_ok  : EnFOK Tryd.prog SQG gateR3E3 := EnFOK.of_fastD evMixed evNames gateR3Orc_ok (tableL_self _) (tabE_ok (es := []) allNil) (n := 90) (fuel := 100000) (fun s t => rfl) (fun s t => by kernel_rfl)
end Go.Proofs.YteibnmohoclocaaDoor
