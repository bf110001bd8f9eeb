/- satrapy/satrapylaw25.GateRounds: in parts: all of them. -/
import Derived.Test.YteibnmohoclocaaDoorGateR1B0
import Derived.Test.YteibnmohoclocaaDoorEwM9
import Derived.Test.YteibnmohoclocaaDoorGateKD
import Derived.ProofKit
namespace Go.Proofs.YteibnmohoclocaaDoor
open Go.RowKit
set_option linter.unusedVariables false
set_option linter.unusedSimpArgs false
set_option maxRecDepth 100000

theorem gateR1E2133_is : EnFOK Tryd.prog SQG gateR1E2133 := gateR1E2133_ok 
theorem gateR1E2060_is : EnFOK Tryd.prog SQG gateR1E2060 := gateR1E2060_ok 
theorem gateR1E1987_is : EnFOK Tryd.prog SQG gateR1E1987 := gateR1E1987_ok 
theorem gateR1E1914_is : EnFOK Tryd.prog SQG gateR1E1914 := gateR1E1914_ok 
theorem gateR1E1841_is : EnFOK Tryd.prog SQG gateR1E1841 := gateR1E1841_ok 
theorem gateR1E1768_is : EnFOK Tryd.prog SQG gateR1E1768 := gateR1E1768_ok 
theorem gateR1E1695_is : EnFOK Tryd.prog SQG gateR1E1695 := gateR1E1695_ok 
theorem gateR1E1622_is : EnFOK Tryd.prog SQG gateR1E1622 := gateR1E1622_ok 
theorem gateR1E1549_is : EnFOK Tryd.prog SQG gateR1E1549 := gateR1E1549_ok 
theorem gateR1E1476_is : EnFOK Tryd.prog SQG gateR1E1476 := gateR1E1476_ok 
theorem gateR1E1403_is : EnFOK Tryd.prog SQG gateR1E1403 := gateR1E1403_ok 
theorem gateR1E1330_is : EnFOK Tryd.prog SQG gateR1E1330 := gateR1E1330_ok 
theorem gateR1E1257_is : EnFOK Tryd.prog SQG gateR1E1257 := gateR1E1257_ok 
theorem gateR1E1184_is : EnFOK Tryd.prog SQG gateR1E1184 := gateR1E1184_ok 
theorem gateR1E1111_is : EnFOK Tryd.prog SQG gateR1E1111 := gateR1E1111_ok 
theorem gateR1E1038_is : EnFOK Tryd.prog SQG gateR1E1038 := gateR1E1038_ok 
theorem gateR1E965_is : EnFOK Tryd.prog SQG gateR1E965 := gateR1E965_ok 
theorem gateR1E892_is : EnFOK Tryd.prog SQG gateR1E892 := gateR1E892_ok 
theorem gateR1E819_is : EnFOK Tryd.prog SQG gateR1E819 := gateR1E819_ok 
theorem gateR1E746_is : EnFOK Tryd.prog SQG gateR1E746 := gateR1E746_ok 
theorem gateR1E673_is : EnFOK Tryd.prog SQG gateR1E673 := gateR1E673_ok 
theorem gateR1E600_is : EnFOK Tryd.prog SQG gateR1E600 := gateR1E600_ok 
theorem gateR1E527_is : EnFOK Tryd.prog SQG gateR1E527 := gateR1E527_ok 
theorem gateR1E454_is : EnFOK Tryd.prog SQG gateR1E454 := gateR1E454_ok 
theorem gateR1E381_is : EnFOK Tryd.prog SQG gateR1E381 := gateR1E381_ok 
theorem gateR1E308_is : EnFOK Tryd.prog SQG gateR1E308 := gateR1E308_ok 
theorem gateR1E235_is : EnFOK Tryd.prog SQG gateR1E235 := gateR1E235_ok 
theorem gateR1E162_is : EnFOK Tryd.prog SQG gateR1E162 := gateR1E162_ok 
theorem gateR1E89_is : EnFOK Tryd.prog SQG gateR1E89 := gateR1E89_ok 
theorem gateR1E16_is : EnFOK Tryd.prog SQG gateR1E16 := gateR1E16_ok 
theorem gateR1E3_is : EnFOK Tryd.prog SQG gateR1E3 := gateR1E3_ok 
end Go.Proofs.YteibnmohoclocaaDoor
