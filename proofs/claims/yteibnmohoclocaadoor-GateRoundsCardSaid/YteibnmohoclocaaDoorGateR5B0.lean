/- satrapy/satrapylaw25.GateRounds: in parts: the parts (0). -/
import Derived.Test.YteibnmohoclocaaDoorGateR5D
import Derived.Test.YteibnmohoclocaaDoorEwM9
import Derived.Test.YteibnmohoclocaaDoorGateKD
import Derived.ProofKit
namespace Go.Proofs.YteibnmohoclocaaDoor
open Go.RowKit
set_option linter.unusedVariables false
set_option linter.unusedSimpArgs false
set_option maxRecDepth 100000

theorem gateR5E600_ok  : EnFOK Tryd.prog SQG gateR5E600 := EnFOK.of_fastD evMixed evNames gateR5Orc_ok (tableL_self _) (tabE_ok (es := []) allNil) (n := 90) (fuel := 100000) (fun s t => rfl) (fun s t => by kernel_rfl)
theorem gateR5E2060_ok  : EnFOK Tryd.prog SQG gateR5E2060 := EnFOK.of_fastD evMixed evNames gateR5Orc_ok (tableL_self _) (tabE_ok (es := []) allNil) (n := 90) (fuel := 100000) (fun s t => rfl) (fun s t => by kernel_rfl)
theorem gateR5E746_ok  : EnFOK Tryd.prog SQG gateR5E746 := EnFOK.of_fastD evMixed evNames gateR5Orc_ok (tableL_self _) (tabE_ok (es := []) allNil) (n := 90) (fuel := 100000) (fun s t => rfl) (fun s t => by kernel_rfl)
theorem gateR5E673_ok  : EnFOK Tryd.prog SQG gateR5E673 := EnFOK.of_fastD evMixed evNames gateR5Orc_ok (tableL_self _) (tabE_ok (es := []) allNil) (n := 90) (fuel := 100000) (fun s t => rfl) (fun s t => by kernel_rfl)
theorem gateR5E1403_ok  : EnFOK Tryd.prog SQG gateR5E1403 := EnFOK.of_fastD evMixed evNames gateR5Orc_ok (tableL_self _) (tabE_ok (es := []) allNil) (n := 90) (fuel := 100000) (fun s t => rfl) (fun s t => by kernel_rfl)
theorem gateR5E1987_ok  : EnFOK Tryd.prog SQG gateR5E1987 := EnFOK.of_fastD evMixed evNames gateR5Orc_ok (tableL_self _) (tabE_ok (es := []) allNil) (n := 90) (fuel := 100000) (fun s t => rfl) (fun s t => by kernel_rfl)
theorem gateR5E819_ok  : EnFOK Tryd.prog SQG gateR5E819 := EnFOK.of_fastD evMixed evNames gateR5Orc_ok (tableL_self _) (tabE_ok (es := []) allNil) (n := 90) (fuel := 100000) (fun s t => rfl) (fun s t => by kernel_rfl)
theorem gateR5E2133_ok  : EnFOK Tryd.prog SQG gateR5E2133 := EnFOK.of_fastD evMixed evNames gateR5Orc_ok (tableL_self _) (tabE_ok (es := []) allNil) (n := 90) (fuel := 100000) (fun s t => rfl) (fun s t => by kernel_rfl)
theorem gateR5E527_ok  : EnFOK Tryd.prog SQG gateR5E527 := EnFOK.of_fastD evMixed evNames gateR5Orc_ok (tableL_self _) (tabE_ok (es := []) allNil) (n := 90) (fuel := 100000) (fun s t => rfl) (fun s t => by kernel_rfl)
theorem gateR5E1768_ok  : EnFOK Tryd.prog SQG gateR5E1768 := EnFOK.of_fastD evMixed evNames gateR5Orc_ok (tableL_self _) (tabE_ok (es := []) allNil) (n := 90) (fuel := 100000) (fun s t => rfl) (fun s t => by kernel_rfl)
theorem gateR5E1549_ok  : EnFOK Tryd.prog SQG gateR5E1549 := EnFOK.of_fastD evMixed evNames gateR5Orc_ok (tableL_self _) (tabE_ok (es := []) allNil) (n := 90) (fuel := 100000) (fun s t => rfl) (fun s t => by kernel_rfl)
theorem gateR5E1622_ok  : EnFOK Tryd.prog SQG gateR5E1622 := EnFOK.of_fastD evMixed evNames gateR5Orc_ok (tableL_self _) (tabE_ok (es := []) allNil) (n := 90) (fuel := 100000) (fun s t => rfl) (fun s t => by kernel_rfl)
theorem gateR5E965_ok  : EnFOK Tryd.prog SQG gateR5E965 := EnFOK.of_fastD evMixed evNames gateR5Orc_ok (tableL_self _) (tabE_ok (es := []) allNil) (n := 90) (fuel := 100000) (fun s t => rfl) (fun s t => by kernel_rfl)
theorem gateR5E1914_ok  : EnFOK Tryd.prog SQG gateR5E1914 := EnFOK.of_fastD evMixed evNames gateR5Orc_ok (tableL_self _) (tabE_ok (es := []) allNil) (n := 90) (fuel := 100000) (fun s t => rfl) (fun s t => by kernel_rfl)
theorem gateR5E1111_ok  : EnFOK Tryd.prog SQG gateR5E1111 := EnFOK.of_fastD evMixed evNames gateR5Orc_ok (tableL_self _) (tabE_ok (es := []) allNil) (n := 90) (fuel := 100000) (fun s t => rfl) (fun s t => by kernel_rfl)
theorem gateR5E1695_ok  : EnFOK Tryd.prog SQG gateR5E1695 := EnFOK.of_fastD evMixed evNames gateR5Orc_ok (tableL_self _) (tabE_ok (es := []) allNil) (n := 90) (fuel := 100000) (fun s t => rfl) (fun s t => by kernel_rfl)
theorem gateR5E892_ok  : EnFOK Tryd.prog SQG gateR5E892 := EnFOK.of_fastD evMixed evNames gateR5Orc_ok (tableL_self _) (tabE_ok (es := []) allNil) (n := 90) (fuel := 100000) (fun s t => rfl) (fun s t => by kernel_rfl)
theorem gateR5E1841_ok  : EnFOK Tryd.prog SQG gateR5E1841 := EnFOK.of_fastD evMixed evNames gateR5Orc_ok (tableL_self _) (tabE_ok (es := []) allNil) (n := 90) (fuel := 100000) (fun s t => rfl) (fun s t => by kernel_rfl)
theorem gateR5E1330_ok  : EnFOK Tryd.prog SQG gateR5E1330 := EnFOK.of_fastD evMixed evNames gateR5Orc_ok (tableL_self _) (tabE_ok (es := []) allNil) (n := 90) (fuel := 100000) (fun s t => rfl) (fun s t => by kernel_rfl)
theorem gateR5E1038_ok  : EnFOK Tryd.prog SQG gateR5E1038 := EnFOK.of_fastD evMixed evNames gateR5Orc_ok (tableL_self _) (tabE_ok (es := []) allNil) (n := 90) (fuel := 100000) (fun s t => rfl) (fun s t => by kernel_rfl)
theorem gateR5E381_ok  : EnFOK Tryd.prog SQG gateR5E381 := EnFOK.of_fastD evMixed evNames gateR5Orc_ok (tableL_self _) (tabE_ok (es := []) allNil) (n := 90) (fuel := 100000) (fun s t => rfl) (fun s t => by kernel_rfl)
theorem gateR5E1184_ok  : EnFOK Tryd.prog SQG gateR5E1184 := EnFOK.of_fastD evMixed evNames gateR5Orc_ok (tableL_self _) (tabE_ok (es := []) allNil) (n := 90) (fuel := 100000) (fun s t => rfl) (fun s t => by kernel_rfl)
theorem gateR5E308_ok  : EnFOK Tryd.prog SQG gateR5E308 := EnFOK.of_fastD evMixed evNames gateR5Orc_ok (tableL_self _) (tabE_ok (es := []) allNil) (n := 90) (fuel := 100000) (fun s t => rfl) (fun s t => by kernel_rfl)
theorem gateR5E1257_ok  : EnFOK Tryd.prog SQG gateR5E1257 := EnFOK.of_fastD evMixed evNames gateR5Orc_ok (tableL_self _) (tabE_ok (es := []) allNil) (n := 90) (fuel := 100000) (fun s t => rfl) (fun s t => by kernel_rfl)
theorem gateR5E1476_ok  : EnFOK Tryd.prog SQG gateR5E1476 := EnFOK.of_fastD evMixed evNames gateR5Orc_ok (tableL_self _) (tabE_ok (es := []) allNil) (n := 90) (fuel := 100000) (fun s t => rfl) (fun s t => by kernel_rfl)
theorem gateR5E235_ok  : EnFOK Tryd.prog SQG gateR5E235 := EnFOK.of_fastD evMixed evNames gateR5Orc_ok (tableL_self _) (tabE_ok (es := []) allNil) (n := 90) (fuel := 100000) (fun s t => rfl) (fun s t => by kernel_rfl)
theorem gateR5E454_ok  : EnFOK Tryd.prog SQG gateR5E454 := EnFOK.of_fastD evMixed evNames gateR5Orc_ok (tableL_self _) (tabE_ok (es := []) allNil) (n := 90) (fuel := 100000) (fun s t => rfl) (fun s t => by kernel_rfl)
theorem gateR5E162_ok  : EnFOK Tryd.prog SQG gateR5E162 := EnFOK.of_fastD evMixed evNames gateR5Orc_ok (tableL_self _) (tabE_ok (es := []) allNil) (n := 90) (fuel := 100000) (fun s t => rfl) (fun s t => by kernel_rfl)
theorem gateR5E16_ok  : EnFOK Tryd.prog SQG gateR5E16 := EnFOK.of_fastD evMixed evNames gateR5Orc_ok (tableL_self _) (tabE_ok (es := []) allNil) (n := 90) (fuel := 100000) (fun s t => rfl) (fun s t => by kernel_rfl)
theorem gateR5E89_ok  : EnFOK Tryd.prog SQG gateR5E89 := EnFOK.of_fastD evMixed evNames gateR5Orc_ok (tableL_self _) (tabE_ok (es := []) allNil) (n := 90) (fuel := 100000) (fun s t => rfl) (fun s t => by kernel_rfl)
theorem gateR5E3_ok  : EnFOK Tryd.prog SQG gateR5E3 := EnFOK.of_fastD evMixed evNames gateR5Orc_ok (tableL_self _) (tabE_ok (es := []) allNil) (n := 90) (fuel := 100000) (fun s t => rfl) (fun s t => by kernel_rfl)
end Go.Proofs.YteibnmohoclocaaDoor
