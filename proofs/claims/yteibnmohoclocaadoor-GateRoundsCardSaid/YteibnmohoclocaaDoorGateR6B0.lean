/- satrapy/satrapylaw25.GateRounds: in parts: the parts (0). -/
import Derived.Test.YteibnmohoclocaaDoorGateR6D
import Derived.Test.YteibnmohoclocaaDoorEwM9
import Derived.Test.YteibnmohoclocaaDoorGateKD
import Derived.ProofKit
namespace Go.Proofs.YteibnmohoclocaaDoor
open Go.RowKit
set_option linter.unusedVariables false
set_option linter.unusedSimpArgs false
set_option maxRecDepth 100000

theorem gateR6E2060_ok  : EnFOK Tryd.prog SQG gateR6E2060 := EnFOK.of_fastD evMixed evNames gateR6Orc_ok (tableL_self _) (tabE_ok (es := []) allNil) (n := 90) (fuel := 100000) (fun s t => rfl) (fun s t => by kernel_rfl)
theorem gateR6E527_ok  : EnFOK Tryd.prog SQG gateR6E527 := EnFOK.of_fastD evMixed evNames gateR6Orc_ok (tableL_self _) (tabE_ok (es := []) allNil) (n := 90) (fuel := 100000) (fun s t => rfl) (fun s t => by kernel_rfl)
theorem gateR6E16_ok  : EnFOK Tryd.prog SQG gateR6E16 := EnFOK.of_fastD evMixed evNames gateR6Orc_ok (tableL_self _) (tabE_ok (es := []) allNil) (n := 90) (fuel := 100000) (fun s t => rfl) (fun s t => by kernel_rfl)
theorem gateR6E89_ok  : EnFOK Tryd.prog SQG gateR6E89 := EnFOK.of_fastD evMixed evNames gateR6Orc_ok (tableL_self _) (tabE_ok (es := []) allNil) (n := 90) (fuel := 100000) (fun s t => rfl) (fun s t => by kernel_rfl)
theorem gateR6E2133_ok  : EnFOK Tryd.prog SQG gateR6E2133 := EnFOK.of_fastD evMixed evNames gateR6Orc_ok (tableL_self _) (tabE_ok (es := []) allNil) (n := 90) (fuel := 100000) (fun s t => rfl) (fun s t => by kernel_rfl)
theorem gateR6E1987_ok  : EnFOK Tryd.prog SQG gateR6E1987 := EnFOK.of_fastD evMixed evNames gateR6Orc_ok (tableL_self _) (tabE_ok (es := []) allNil) (n := 90) (fuel := 100000) (fun s t => rfl) (fun s t => by kernel_rfl)
theorem gateR6E1914_ok  : EnFOK Tryd.prog SQG gateR6E1914 := EnFOK.of_fastD evMixed evNames gateR6Orc_ok (tableL_self _) (tabE_ok (es := []) allNil) (n := 90) (fuel := 100000) (fun s t => rfl) (fun s t => by kernel_rfl)
theorem gateR6E1768_ok  : EnFOK Tryd.prog SQG gateR6E1768 := EnFOK.of_fastD evMixed evNames gateR6Orc_ok (tableL_self _) (tabE_ok (es := []) allNil) (n := 90) (fuel := 100000) (fun s t => rfl) (fun s t => by kernel_rfl)
theorem gateR6E1841_ok  : EnFOK Tryd.prog SQG gateR6E1841 := EnFOK.of_fastD evMixed evNames gateR6Orc_ok (tableL_self _) (tabE_ok (es := []) allNil) (n := 90) (fuel := 100000) (fun s t => rfl) (fun s t => by kernel_rfl)
theorem gateR6E1695_ok  : EnFOK Tryd.prog SQG gateR6E1695 := EnFOK.of_fastD evMixed evNames gateR6Orc_ok (tableL_self _) (tabE_ok (es := []) allNil) (n := 90) (fuel := 100000) (fun s t => rfl) (fun s t => by kernel_rfl)
theorem gateR6E1549_ok  : EnFOK Tryd.prog SQG gateR6E1549 := EnFOK.of_fastD evMixed evNames gateR6Orc_ok (tableL_self _) (tabE_ok (es := []) allNil) (n := 90) (fuel := 100000) (fun s t => rfl) (fun s t => by kernel_rfl)
theorem gateR6E1622_ok  : EnFOK Tryd.prog SQG gateR6E1622 := EnFOK.of_fastD evMixed evNames gateR6Orc_ok (tableL_self _) (tabE_ok (es := []) allNil) (n := 90) (fuel := 100000) (fun s t => rfl) (fun s t => by kernel_rfl)
theorem gateR6E1111_ok  : EnFOK Tryd.prog SQG gateR6E1111 := EnFOK.of_fastD evMixed evNames gateR6Orc_ok (tableL_self _) (tabE_ok (es := []) allNil) (n := 90) (fuel := 100000) (fun s t => rfl) (fun s t => by kernel_rfl)
theorem gateR6E1476_ok  : EnFOK Tryd.prog SQG gateR6E1476 := EnFOK.of_fastD evMixed evNames gateR6Orc_ok (tableL_self _) (tabE_ok (es := []) allNil) (n := 90) (fuel := 100000) (fun s t => rfl) (fun s t => by kernel_rfl)
theorem gateR6E1330_ok  : EnFOK Tryd.prog SQG gateR6E1330 := EnFOK.of_fastD evMixed evNames gateR6Orc_ok (tableL_self _) (tabE_ok (es := []) allNil) (n := 90) (fuel := 100000) (fun s t => rfl) (fun s t => by kernel_rfl)
theorem gateR6E1403_ok  : EnFOK Tryd.prog SQG gateR6E1403 := EnFOK.of_fastD evMixed evNames gateR6Orc_ok (tableL_self _) (tabE_ok (es := []) allNil) (n := 90) (fuel := 100000) (fun s t => rfl) (fun s t => by kernel_rfl)
theorem gateR6E1257_ok  : EnFOK Tryd.prog SQG gateR6E1257 := EnFOK.of_fastD evMixed evNames gateR6Orc_ok (tableL_self _) (tabE_ok (es := []) allNil) (n := 90) (fuel := 100000) (fun s t => rfl) (fun s t => by kernel_rfl)
theorem gateR6E1184_ok  : EnFOK Tryd.prog SQG gateR6E1184 := EnFOK.of_fastD evMixed evNames gateR6Orc_ok (tableL_self _) (tabE_ok (es := []) allNil) (n := 90) (fuel := 100000) (fun s t => rfl) (fun s t => by kernel_rfl)
theorem gateR6E965_ok  : EnFOK Tryd.prog SQG gateR6E965 := EnFOK.of_fastD evMixed evNames gateR6Orc_ok (tableL_self _) (tabE_ok (es := []) allNil) (n := 90) (fuel := 100000) (fun s t => rfl) (fun s t => by kernel_rfl)
theorem gateR6E673_ok  : EnFOK Tryd.prog SQG gateR6E673 := EnFOK.of_fastD evMixed evNames gateR6Orc_ok (tableL_self _) (tabE_ok (es := []) allNil) (n := 90) (fuel := 100000) (fun s t => rfl) (fun s t => by kernel_rfl)
theorem gateR6E819_ok  : EnFOK Tryd.prog SQG gateR6E819 := EnFOK.of_fastD evMixed evNames gateR6Orc_ok (tableL_self _) (tabE_ok (es := []) allNil) (n := 90) (fuel := 100000) (fun s t => rfl) (fun s t => by kernel_rfl)
theorem gateR6E1038_ok  : EnFOK Tryd.prog SQG gateR6E1038 := EnFOK.of_fastD evMixed evNames gateR6Orc_ok (tableL_self _) (tabE_ok (es := []) allNil) (n := 90) (fuel := 100000) (fun s t => rfl) (fun s t => by kernel_rfl)
theorem gateR6E746_ok  : EnFOK Tryd.prog SQG gateR6E746 := EnFOK.of_fastD evMixed evNames gateR6Orc_ok (tableL_self _) (tabE_ok (es := []) allNil) (n := 90) (fuel := 100000) (fun s t => rfl) (fun s t => by kernel_rfl)
theorem gateR6E162_ok  : EnFOK Tryd.prog SQG gateR6E162 := EnFOK.of_fastD evMixed evNames gateR6Orc_ok (tableL_self _) (tabE_ok (es := []) allNil) (n := 90) (fuel := 100000) (fun s t => rfl) (fun s t => by kernel_rfl)
theorem gateR6E892_ok  : EnFOK Tryd.prog SQG gateR6E892 := EnFOK.of_fastD evMixed evNames gateR6Orc_ok (tableL_self _) (tabE_ok (es := []) allNil) (n := 90) (fuel := 100000) (fun s t => rfl) (fun s t => by kernel_rfl)
theorem gateR6E381_ok  : EnFOK Tryd.prog SQG gateR6E381 := EnFOK.of_fastD evMixed evNames gateR6Orc_ok (tableL_self _) (tabE_ok (es := []) allNil) (n := 90) (fuel := 100000) (fun s t => rfl) (fun s t => by kernel_rfl)
theorem gateR6E600_ok  : EnFOK Tryd.prog SQG gateR6E600 := EnFOK.of_fastD evMixed evNames gateR6Orc_ok (tableL_self _) (tabE_ok (es := []) allNil) (n := 90) (fuel := 100000) (fun s t => rfl) (fun s t => by kernel_rfl)
theorem gateR6E454_ok  : EnFOK Tryd.prog SQG gateR6E454 := EnFOK.of_fastD evMixed evNames gateR6Orc_ok (tableL_self _) (tabE_ok (es := []) allNil) (n := 90) (fuel := 100000) (fun s t => rfl) (fun s t => by kernel_rfl)
theorem gateR6E235_ok  : EnFOK Tryd.prog SQG gateR6E235 := EnFOK.of_fastD evMixed evNames gateR6Orc_ok (tableL_self _) (tabE_ok (es := []) allNil) (n := 90) (fuel := 100000) (fun s t => rfl) (fun s t => by kernel_rfl)
theorem gateR6E308_ok  : EnFOK Tryd.prog SQG gateR6E308 := EnFOK.of_fastD evMixed evNames gateR6Orc_ok (tableL_self _) (tabE_ok (es := []) allNil) (n := 90) (fuel := 100000) (fun s t => rfl) (fun s t => by kernel_rfl)
theorem gateR6E3_ok  : EnFOK Tryd.prog SQG gateR6E3 := EnFOK.of_fastD evMixed evNames gateR6Orc_ok (tableL_self _) (tabE_ok (es := []) allNil) (n := 90) (fuel := 100000) (fun s t => rfl) (fun s t => by kernel_rfl)
end Go.Proofs.YteibnmohoclocaaDoor
