/- satrapy/satrapylaw25.GateRounds: in parts: all of them. -/
import Derived.Test.YteibnmohoclocaaDoorGateR6B0
import Derived.Test.YteibnmohoclocaaDoorEwM9
import Derived.Test.YteibnmohoclocaaDoorGateKD
import Derived.ProofKit
namespace Go.Proofs.YteibnmohoclocaaDoor
open Go.RowKit
set_option linter.unusedVariables false
set_option linter.unusedSimpArgs false
set_option maxRecDepth 100000

theorem gateR6E2133_is : EnFOK Tryd.prog SQG gateR6E2133 := gateR6E2133_ok 
theorem gateR6E2060_is : EnFOK Tryd.prog SQG gateR6E2060 := gateR6E2060_ok 
theorem gateR6E1987_is : EnFOK Tryd.prog SQG gateR6E1987 := gateR6E1987_ok 
theorem gateR6E1914_is : EnFOK Tryd.prog SQG gateR6E1914 := gateR6E1914_ok 
theorem gateR6E1841_is : EnFOK Tryd.prog SQG gateR6E1841 := gateR6E1841_ok 
theorem gateR6E1768_is : EnFOK Tryd.prog SQG gateR6E1768 := gateR6E1768_ok 
theorem gateR6E1695_is : EnFOK Tryd.prog SQG gateR6E1695 := gateR6E1695_ok 
theorem gateR6E1622_is : EnFOK Tryd.prog SQG gateR6E1622 := gateR6E1622_ok 
theorem gateR6E1549_is : EnFOK Tryd.prog SQG gateR6E1549 := gateR6E1549_ok 
theorem gateR6E1476_is : EnFOK Tryd.prog SQG gateR6E1476 := gateR6E1476_ok 
theorem gateR6E1403_is : EnFOK Tryd.prog SQG gateR6E1403 := gateR6E1403_ok 
theorem gateR6E1330_is : EnFOK Tryd.prog SQG gateR6E1330 := gateR6E1330_ok 
theorem gateR6E1257_is : EnFOK Tryd.prog SQG gateR6E1257 := gateR6E1257_ok 
theorem gateR6E1184_is : EnFOK Tryd.prog SQG gateR6E1184 := gateR6E1184_ok 
theorem gateR6E1111_is : EnFOK Tryd.prog SQG gateR6E1111 := gateR6E1111_ok 
theorem gateR6E1038_is : EnFOK Tryd.prog SQG gateR6E1038 := gateR6E1038_ok 
theorem gateR6E965_is : EnFOK Tryd.prog SQG gateR6E965 := gateR6E965_ok 
theorem gateR6E892_is : EnFOK Tryd.prog SQG gateR6E892 := gateR6E892_ok 
theorem gateR6E819_is : EnFOK Tryd.prog SQG gateR6E819 := gateR6E819_ok 
theorem gateR6E746_is : EnFOK Tryd.prog SQG gateR6E746 := gateR6E746_ok 
theorem gateR6E673_is : EnFOK Tryd.prog SQG gateR6E673 := gateR6E673_ok 
theorem gateR6E600_is : EnFOK Tryd.prog SQG gateR6E600 := gateR6E600_ok 
theorem gateR6E527_is : EnFOK Tryd.prog SQG gateR6E527 := gateR6E527_ok 
theorem gateR6E454_is : EnFOK Tryd.prog SQG gateR6E454 := gateR6E454_ok 
theorem gateR6E381_is : EnFOK Tryd.prog SQG gateR6E381 := gateR6E381_ok 
theorem gateR6E308_is : EnFOK Tryd.prog SQG gateR6E308 := gateR6E308_ok 
theorem gateR6E235_is : EnFOK Tryd.prog SQG gateR6E235 := gateR6E235_ok 
theorem gateR6E162_is : EnFOK Tryd.prog SQG gateR6E162 := gateR6E162_ok 
theorem gateR6E89_is : EnFOK Tryd.prog SQG gateR6E89 := gateR6E89_ok 
theorem gateR6E16_is : EnFOK Tryd.prog SQG gateR6E16 := gateR6E16_ok 
theorem gateR6E3_is : EnFOK Tryd.prog SQG gateR6E3 := gateR6E3_ok 
end Go.Proofs.YteibnmohoclocaaDoor
