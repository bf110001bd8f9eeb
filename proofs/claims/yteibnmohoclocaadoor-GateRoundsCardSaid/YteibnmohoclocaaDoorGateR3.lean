/- satrapy/satrapylaw25.GateRounds: in parts: all of them. -/
import Derived.Test.YteibnmohoclocaaDoorGateR3B0
import Derived.Test.YteibnmohoclocaaDoorEwM9
import Derived.Test.YteibnmohoclocaaDoorGateKD
import Derived.ProofKit
namespace Go.Proofs.YteibnmohoclocaaDoor
open Go.RowKit
set_option linter.unusedVariables false
set_option linter.unusedSimpArgs false
set_option maxRecDepth 100000

theorem gateR3E2133_is : EnFOK Tryd.prog SQG gateR3E2133 := gateR3E2133_ok 
theorem gateR3E2060_is : EnFOK Tryd.prog SQG gateR3E2060 := gateR3E2060_ok 
theorem gateR3E1987_is : EnFOK Tryd.prog SQG gateR3E1987 := gateR3E1987_ok 
theorem gateR3E1914_is : EnFOK Tryd.prog SQG gateR3E1914 := gateR3E1914_ok 
theorem gateR3E1841_is : EnFOK Tryd.prog SQG gateR3E1841 := gateR3E1841_ok 
theorem gateR3E1768_is : EnFOK Tryd.prog SQG gateR3E1768 := gateR3E1768_ok 
theorem gateR3E1695_is : EnFOK Tryd.prog SQG gateR3E1695 := gateR3E1695_ok 
theorem gateR3E1622_is : EnFOK Tryd.prog SQG gateR3E1622 := gateR3E1622_ok 
theorem gateR3E1549_is : EnFOK Tryd.prog SQG gateR3E1549 := gateR3E1549_ok 
theorem gateR3E1476_is : EnFOK Tryd.prog SQG gateR3E1476 := gateR3E1476_ok 
theorem gateR3E1403_is : EnFOK Tryd.prog SQG gateR3E1403 := gateR3E1403_ok 
theorem gateR3E1330_is : EnFOK Tryd.prog SQG gateR3E1330 := gateR3E1330_ok 
theorem gateR3E1257_is : EnFOK Tryd.prog SQG gateR3E1257 := gateR3E1257_ok 
theorem gateR3E1184_is : EnFOK Tryd.prog SQG gateR3E1184 := gateR3E1184_ok 
theorem gateR3E1111_is : EnFOK Tryd.prog SQG gateR3E1111 := gateR3E1111_ok 
theorem gateR3E1038_is : EnFOK Tryd.prog SQG gateR3E1038 := gateR3E1038_ok 
theorem gateR3E965_is : EnFOK Tryd.prog SQG gateR3E965 := gateR3E965_ok 
theorem gateR3E892_is : EnFOK Tryd.prog SQG gateR3E892 := gateR3E892_ok 
theorem gateR3E819_is : EnFOK Tryd.prog SQG gateR3E819 := gateR3E819_ok 
theorem gateR3E746_is : EnFOK Tryd.prog SQG gateR3E746 := gateR3E746_ok 
theorem gateR3E673_is : EnFOK Tryd.prog SQG gateR3E673 := gateR3E673_ok 
theorem gateR3E600_is : EnFOK Tryd.prog SQG gateR3E600 := gateR3E600_ok 
theorem gateR3E527_is : EnFOK Tryd.prog SQG gateR3E527 := gateR3E527_ok 
theorem gateR3E454_is : EnFOK Tryd.prog SQG gateR3E454 := gateR3E454_ok 
theorem gateR3E381_is : EnFOK Tryd.prog SQG gateR3E381 := gateR3E381_ok 
theorem gateR3E308_is : EnFOK Tryd.prog SQG gateR3E308 := gateR3E308_ok 
theorem gateR3E235_is : EnFOK Tryd.prog SQG gateR3E235 := gateR3E235_ok 
theorem gateR3E162_is : EnFOK Tryd.prog SQG gateR3E162 := gateR3E162_ok 
theorem gateR3E89_is : EnFOK Tryd.prog SQG gateR3E89 := gateR3E89_ok 
theorem gateR3E16_is : EnFOK Tryd.prog SQG gateR3E16 := gateR3E16_ok 
theorem gateR3E3_is : EnFOK Tryd.prog SQG gateR3E3 := gateR3E3_ok 
end Go.Proofs.YteibnmohoclocaaDoor
