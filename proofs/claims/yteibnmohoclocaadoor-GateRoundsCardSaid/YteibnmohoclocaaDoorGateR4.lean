/- satrapy/satrapylaw25.GateRounds: in parts: all of them. -/
import Derived.Test.YteibnmohoclocaaDoorGateR4B0
import Derived.Test.YteibnmohoclocaaDoorEwM9
import Derived.Test.YteibnmohoclocaaDoorGateKD
import Derived.ProofKit
namespace Go.Proofs.YteibnmohoclocaaDoor
open Go.RowKit
set_option linter.unusedVariables false
set_option linter.unusedSimpArgs false
set_option maxRecDepth 100000

theorem gateR4E2133_is : EnFOK Tryd.prog SQG gateR4E2133 := gateR4E2133_ok 
theorem gateR4E2060_is : EnFOK Tryd.prog SQG gateR4E2060 := gateR4E2060_ok 
theorem gateR4E1987_is : EnFOK Tryd.prog SQG gateR4E1987 := gateR4E1987_ok 
theorem gateR4E1914_is : EnFOK Tryd.prog SQG gateR4E1914 := gateR4E1914_ok 
theorem gateR4E1841_is : EnFOK Tryd.prog SQG gateR4E1841 := gateR4E1841_ok 
theorem gateR4E1768_is : EnFOK Tryd.prog SQG gateR4E1768 := gateR4E1768_ok 
theorem gateR4E1695_is : EnFOK Tryd.prog SQG gateR4E1695 := gateR4E1695_ok 
theorem gateR4E1622_is : EnFOK Tryd.prog SQG gateR4E1622 := gateR4E1622_ok 
theorem gateR4E1549_is : EnFOK Tryd.prog SQG gateR4E1549 := gateR4E1549_ok 
theorem gateR4E1476_is : EnFOK Tryd.prog SQG gateR4E1476 := gateR4E1476_ok 
theorem gateR4E1403_is : EnFOK Tryd.prog SQG gateR4E1403 := gateR4E1403_ok 
theorem gateR4E1330_is : EnFOK Tryd.prog SQG gateR4E1330 := gateR4E1330_ok 
theorem gateR4E1257_is : EnFOK Tryd.prog SQG gateR4E1257 := gateR4E1257_ok 
theorem gateR4E1184_is : EnFOK Tryd.prog SQG gateR4E1184 := gateR4E1184_ok 
theorem gateR4E1111_is : EnFOK Tryd.prog SQG gateR4E1111 := gateR4E1111_ok 
theorem gateR4E1038_is : EnFOK Tryd.prog SQG gateR4E1038 := gateR4E1038_ok 
theorem gateR4E965_is : EnFOK Tryd.prog SQG gateR4E965 := gateR4E965_ok 
theorem gateR4E892_is : EnFOK Tryd.prog SQG gateR4E892 := gateR4E892_ok 
theorem gateR4E819_is : EnFOK Tryd.prog SQG gateR4E819 := gateR4E819_ok 
theorem gateR4E746_is : EnFOK Tryd.prog SQG gateR4E746 := gateR4E746_ok 
theorem gateR4E673_is : EnFOK Tryd.prog SQG gateR4E673 := gateR4E673_ok 
theorem gateR4E600_is : EnFOK Tryd.prog SQG gateR4E600 := gateR4E600_ok 
theorem gateR4E527_is : EnFOK Tryd.prog SQG gateR4E527 := gateR4E527_ok 
theorem gateR4E454_is : EnFOK Tryd.prog SQG gateR4E454 := gateR4E454_ok 
theorem gateR4E381_is : EnFOK Tryd.prog SQG gateR4E381 := gateR4E381_ok 
theorem gateR4E308_is : EnFOK Tryd.prog SQG gateR4E308 := gateR4E308_ok 
theorem gateR4E235_is : EnFOK Tryd.prog SQG gateR4E235 := gateR4E235_ok 
theorem gateR4E162_is : EnFOK Tryd.prog SQG gateR4E162 := gateR4E162_ok 
theorem gateR4E89_is : EnFOK Tryd.prog SQG gateR4E89 := gateR4E89_ok 
theorem gateR4E16_is : EnFOK Tryd.prog SQG gateR4E16 := gateR4E16_ok 
theorem gateR4E3_is : EnFOK Tryd.prog SQG gateR4E3 := gateR4E3_ok 
end Go.Proofs.YteibnmohoclocaaDoor
