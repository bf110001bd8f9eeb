/- satrapy/satrapylaw25.GateRounds: in parts: all of them. -/
import Derived.Test.YteibnmohoclocaaDoorGateR2B0
import Derived.Test.YteibnmohoclocaaDoorEwM9
import Derived.Test.YteibnmohoclocaaDoorGateKD
import Derived.ProofKit
namespace Go.Proofs.YteibnmohoclocaaDoor
open Go.RowKit
set_option linter.unusedVariables false
set_option linter.unusedSimpArgs false
set_option maxRecDepth 100000

theorem gateR2E2133_is : EnFOK Tryd.prog SQG gateR2E2133 := gateR2E2133_ok 
theorem gateR2E2060_is : EnFOK Tryd.prog SQG gateR2E2060 := gateR2E2060_ok 
theorem gateR2E1987_is : EnFOK Tryd.prog SQG gateR2E1987 := gateR2E1987_ok 
theorem gateR2E1914_is : EnFOK Tryd.prog SQG gateR2E1914 := gateR2E1914_ok 
theorem gateR2E1841_is : EnFOK Tryd.prog SQG gateR2E1841 := gateR2E1841_ok 
theorem gateR2E1768_is : EnFOK Tryd.prog SQG gateR2E1768 := gateR2E1768_ok 
theorem gateR2E1695_is : EnFOK Tryd.prog SQG gateR2E1695 := gateR2E1695_ok 
theorem gateR2E1622_is : EnFOK Tryd.prog SQG gateR2E1622 := gateR2E1622_ok 
theorem gateR2E1549_is : EnFOK Tryd.prog SQG gateR2E1549 := gateR2E1549_ok 
theorem gateR2E1476_is : EnFOK Tryd.prog SQG gateR2E1476 := gateR2E1476_ok 
theorem gateR2E1403_is : EnFOK Tryd.prog SQG gateR2E1403 := gateR2E1403_ok 
theorem gateR2E1330_is : EnFOK Tryd.prog SQG gateR2E1330 := gateR2E1330_ok 
theorem gateR2E1257_is : EnFOK Tryd.prog SQG gateR2E1257 := gateR2E1257_ok 
theorem gateR2E1184_is : EnFOK Tryd.prog SQG gateR2E1184 := gateR2E1184_ok 
theorem gateR2E1111_is : EnFOK Tryd.prog SQG gateR2E1111 := gateR2E1111_ok 
theorem gateR2E1038_is : EnFOK Tryd.prog SQG gateR2E1038 := gateR2E1038_ok 
theorem gateR2E965_is : EnFOK Tryd.prog SQG gateR2E965 := gateR2E965_ok 
theorem gateR2E892_is : EnFOK Tryd.prog SQG gateR2E892 := gateR2E892_ok 
theorem gateR2E819_is : EnFOK Tryd.prog SQG gateR2E819 := gateR2E819_ok 
theorem gateR2E746_is : EnFOK Tryd.prog SQG gateR2E746 := gateR2E746_ok 
theorem gateR2E673_is : EnFOK Tryd.prog SQG gateR2E673 := gateR2E673_ok 
theorem gateR2E600_is : EnFOK Tryd.prog SQG gateR2E600 := gateR2E600_ok 
theorem gateR2E527_is : EnFOK Tryd.prog SQG gateR2E527 := gateR2E527_ok 
theorem gateR2E454_is : EnFOK Tryd.prog SQG gateR2E454 := gateR2E454_ok 
theorem gateR2E381_is : EnFOK Tryd.prog SQG gateR2E381 := gateR2E381_ok 
theorem gateR2E308_is : EnFOK Tryd.prog SQG gateR2E308 := gateR2E308_ok 
theorem gateR2E235_is : EnFOK Tryd.prog SQG gateR2E235 := gateR2E235_ok 
theorem gateR2E162_is : EnFOK Tryd.prog SQG gateR2E162 := gateR2E162_ok 
theorem gateR2E89_is : EnFOK Tryd.prog SQG gateR2E89 := gateR2E89_ok 
theorem gateR2E16_is : EnFOK Tryd.prog SQG gateR2E16 := gateR2E16_ok 
theorem gateR2E3_is : EnFOK Tryd.prog SQG gateR2E3 := gateR2E3_ok 
end Go.Proofs.YteibnmohoclocaaDoor
