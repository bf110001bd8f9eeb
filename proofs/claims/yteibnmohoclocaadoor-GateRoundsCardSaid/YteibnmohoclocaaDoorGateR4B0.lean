/- satrapy/satrapylaw25.GateRounds: in parts: the parts (0). -/
import Derived.Test.YteibnmohoclocaaDoorGateR4D
import Derived.Test.YteibnmohoclocaaDoorEwM9
import Derived.Test.YteibnmohoclocaaDoorGateKD
import Derived.ProofKit
namespace Go.Proofs.YteibnmohoclocaaDoor
open Go.RowKit
set_option linter.unusedVariables false
set_option linter.unusedSimpArgs false
set_option maxRecDepth 100000

theorem gateR4E2060_ok  : EnFOK Tryd.prog SQG gateR4E2060 := EnFOK.of_fastD evMixed evNames gateR4Orc_ok (tableL_self _) (tabE_ok (es := []) allNil) (n := 90) (fuel := 100000) (fun s t => rfl) (fun s t => by kernel_rfl)
theorem gateR4E527_ok  : EnFOK Tryd.prog SQG gateR4E527 := EnFOK.of_fastD evMixed evNames gateR4Orc_ok (tableL_self _) (tabE_ok (es := []) allNil) (n := 90) (fuel := 100000) (fun s t => rfl) (fun s t => by kernel_rfl)
theorem gateR4E1111_ok  : EnFOK Tryd.prog SQG gateR4E1111 := EnFOK.of_fastD evMixed evNames gateR4Orc_ok (tableL_self _) (tabE_ok (es := []) allNil) (n := 90) (fuel := 100000) (fun s t => rfl) (fun s t => by kernel_rfl)
theorem gateR4E965_ok  : EnFOK Tryd.prog SQG gateR4E965 := EnFOK.of_fastD evMixed evNames gateR4Orc_ok (tableL_self _) (tabE_ok (es := []) allNil) (n := 90) (fuel := 100000) (fun s t => rfl) (fun s t => by kernel_rfl)
theorem gateR4E746_ok  : EnFOK Tryd.prog SQG gateR4E746 := EnFOK.of_fastD evMixed evNames gateR4Orc_ok (tableL_self _) (tabE_ok (es := []) allNil) (n := 90) (fuel := 100000) (fun s t => rfl) (fun s t => by kernel_rfl)
theorem gateR4E1257_ok  : EnFOK Tryd.prog SQG gateR4E1257 := EnFOK.of_fastD evMixed evNames gateR4Orc_ok (tableL_self _) (tabE_ok (es := []) allNil) (n := 90) (fuel := 100000) (fun s t => rfl) (fun s t => by kernel_rfl)
theorem gateR4E1403_ok  : EnFOK Tryd.prog SQG gateR4E1403 := EnFOK.of_fastD evMixed evNames gateR4Orc_ok (tableL_self _) (tabE_ok (es := []) allNil) (n := 90) (fuel := 100000) (fun s t => rfl) (fun s t => by kernel_rfl)
theorem gateR4E819_ok  : EnFOK Tryd.prog SQG gateR4E819 := EnFOK.of_fastD evMixed evNames gateR4Orc_ok (tableL_self _) (tabE_ok (es := []) allNil) (n := 90) (fuel := 100000) (fun s t => rfl) (fun s t => by kernel_rfl)
theorem gateR4E308_ok  : EnFOK Tryd.prog SQG gateR4E308 := EnFOK.of_fastD evMixed evNames gateR4Orc_ok (tableL_self _) (tabE_ok (es := []) allNil) (n := 90) (fuel := 100000) (fun s t => rfl) (fun s t => by kernel_rfl)
theorem gateR4E235_ok  : EnFOK Tryd.prog SQG gateR4E235 := EnFOK.of_fastD evMixed evNames gateR4Orc_ok (tableL_self _) (tabE_ok (es := []) allNil) (n := 90) (fuel := 100000) (fun s t => rfl) (fun s t => by kernel_rfl)
theorem gateR4E1987_ok  : EnFOK Tryd.prog SQG gateR4E1987 := EnFOK.of_fastD evMixed evNames gateR4Orc_ok (tableL_self _) (tabE_ok (es := []) allNil) (n := 90) (fuel := 100000) (fun s t => rfl) (fun s t => by kernel_rfl)
theorem gateR4E1695_ok  : EnFOK Tryd.prog SQG gateR4E1695 := EnFOK.of_fastD evMixed evNames gateR4Orc_ok (tableL_self _) (tabE_ok (es := []) allNil) (n := 90) (fuel := 100000) (fun s t => rfl) (fun s t => by kernel_rfl)
theorem gateR4E892_ok  : EnFOK Tryd.prog SQG gateR4E892 := EnFOK.of_fastD evMixed evNames gateR4Orc_ok (tableL_self _) (tabE_ok (es := []) allNil) (n := 90) (fuel := 100000) (fun s t => rfl) (fun s t => by kernel_rfl)
theorem gateR4E381_ok  : EnFOK Tryd.prog SQG gateR4E381 := EnFOK.of_fastD evMixed evNames gateR4Orc_ok (tableL_self _) (tabE_ok (es := []) allNil) (n := 90) (fuel := 100000) (fun s t => rfl) (fun s t => by kernel_rfl)
theorem gateR4E1549_ok  : EnFOK Tryd.prog SQG gateR4E1549 := EnFOK.of_fastD evMixed evNames gateR4Orc_ok (tableL_self _) (tabE_ok (es := []) allNil) (n := 90) (fuel := 100000) (fun s t => rfl) (fun s t => by kernel_rfl)
theorem gateR4E1184_ok  : EnFOK Tryd.prog SQG gateR4E1184 := EnFOK.of_fastD evMixed evNames gateR4Orc_ok (tableL_self _) (tabE_ok (es := []) allNil) (n := 90) (fuel := 100000) (fun s t => rfl) (fun s t => by kernel_rfl)
theorem gateR4E1622_ok  : EnFOK Tryd.prog SQG gateR4E1622 := EnFOK.of_fastD evMixed evNames gateR4Orc_ok (tableL_self _) (tabE_ok (es := []) allNil) (n := 90) (fuel := 100000) (fun s t => rfl) (fun s t => by kernel_rfl)
theorem gateR4E1038_ok  : EnFOK Tryd.prog SQG gateR4E1038 := EnFOK.of_fastD evMixed evNames gateR4Orc_ok (tableL_self _) (tabE_ok (es := []) allNil) (n := 90) (fuel := 100000) (fun s t => rfl) (fun s t => by kernel_rfl)
theorem gateR4E162_ok  : EnFOK Tryd.prog SQG gateR4E162 := EnFOK.of_fastD evMixed evNames gateR4Orc_ok (tableL_self _) (tabE_ok (es := []) allNil) (n := 90) (fuel := 100000) (fun s t => rfl) (fun s t => by kernel_rfl)
theorem gateR4E1914_ok  : EnFOK Tryd.prog SQG gateR4E1914 := EnFOK.of_fastD evMixed evNames gateR4Orc_ok (tableL_self _) (tabE_ok (es := []) allNil) (n := 90) (fuel := 100000) (fun s t => rfl) (fun s t => by kernel_rfl)
theorem gateR4E1330_ok  : EnFOK Tryd.prog SQG gateR4E1330 := EnFOK.of_fastD evMixed evNames gateR4Orc_ok (tableL_self _) (tabE_ok (es := []) allNil) (n := 90) (fuel := 100000) (fun s t => rfl) (fun s t => by kernel_rfl)
theorem gateR4E1476_ok  : EnFOK Tryd.prog SQG gateR4E1476 := EnFOK.of_fastD evMixed evNames gateR4Orc_ok (tableL_self _) (tabE_ok (es := []) allNil) (n := 90) (fuel := 100000) (fun s t => rfl) (fun s t => by kernel_rfl)
theorem gateR4E1768_ok  : EnFOK Tryd.prog SQG gateR4E1768 := EnFOK.of_fastD evMixed evNames gateR4Orc_ok (tableL_self _) (tabE_ok (es := []) allNil) (n := 90) (fuel := 100000) (fun s t => rfl) (fun s t => by kernel_rfl)
theorem gateR4E2133_ok  : EnFOK Tryd.prog SQG gateR4E2133 := EnFOK.of_fastD evMixed evNames gateR4Orc_ok (tableL_self _) (tabE_ok (es := []) allNil) (n := 90) (fuel := 100000) (fun s t => rfl) (fun s t => by kernel_rfl)
theorem gateR4E89_ok  : EnFOK Tryd.prog SQG gateR4E89 := EnFOK.of_fastD evMixed evNames gateR4Orc_ok (tableL_self _) (tabE_ok (es := []) allNil) (n := 90) (fuel := 100000) (fun s t => rfl) (fun s t => by kernel_rfl)
theorem gateR4E1841_ok  : EnFOK Tryd.prog SQG gateR4E1841 := EnFOK.of_fastD evMixed evNames gateR4Orc_ok (tableL_self _) (tabE_ok (es := []) allNil) (n := 90) (fuel := 100000) (fun s t => rfl) (fun s t => by kernel_rfl)
theorem gateR4E673_ok  : EnFOK Tryd.prog SQG gateR4E673 := EnFOK.of_fastD evMixed evNames gateR4Orc_ok (tableL_self _) (tabE_ok (es := []) allNil) (n := 90) (fuel := 100000) (fun s t => rfl) (fun s t => by kernel_rfl)
theorem gateR4E16_ok  : EnFOK Tryd.prog SQG gateR4E16 := EnFOK.of_fastD evMixed evNames gateR4Orc_ok (tableL_self _) (tabE_ok (es := []) allNil) (n := 90) (fuel := 100000) (fun s t => rfl) (fun s t => by kernel_rfl)
theorem gateR4E600_ok  : EnFOK Tryd.prog SQG gateR4E600 := EnFOK.of_fastD evMixed evNames gateR4Orc_ok (tableL_self _) (tabE_ok (es := []) allNil) (n := 90) (fuel := 100000) (fun s t => rfl) (fun s t => by kernel_rfl)
theorem gateR4E454_ok  : EnFOK Tryd.prog SQG gateR4E454 := EnFOK.of_fastD evMixed evNames gateR4Orc_ok (tableL_self _) (tabE_ok (es := []) allNil) (n := 90) (fuel := 100000) (fun s t => rfl) (fun s t => by kernel_rfl)
theorem gateR4E3_ok  : EnFOK Tryd.prog SQG gateR4E3 := EnFOK.of_fastD evMixed evNames gateR4Orc_ok (tableL_self _) (tabE_ok (es := []) allNil) (n := 90) (fuel := 100000) (fun s t => rfl) (fun s t => by kernel_rfl)
end Go.Proofs.YteibnmohoclocaaDoor
