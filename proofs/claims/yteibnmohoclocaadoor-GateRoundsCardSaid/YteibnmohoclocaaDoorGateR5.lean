/- satrapy/satrapylaw25.GateRounds: in parts: all of them. -/
import Derived.Test.YteibnmohoclocaaDoorGateR5B0
import Derived.Test.YteibnmohoclocaaDoorEwM9
import Derived.Test.YteibnmohoclocaaDoorGateKD
import Derived.ProofKit
namespace Go.Proofs.YteibnmohoclocaaDoor
open Go.RowKit
set_option linter.unusedVariables false
set_option linter.unusedSimpArgs false
set_option maxRecDepth 100000

theorem gateR5E2133_is : EnFOK Tryd.prog SQG gateR5E2133 := gateR5E2133_ok 
theorem gateR5E2060_is : EnFOK Tryd.prog SQG gateR5E2060 := gateR5E2060_ok 
theorem gateR5E1987_is : EnFOK Tryd.prog SQG gateR5E1987 := gateR5E1987_ok 
theorem gateR5E1914_is : EnFOK Tryd.prog SQG gateR5E1914 := gateR5E1914_ok 
theorem gateR5E1841_is : EnFOK Tryd.prog SQG gateR5E1841 := gateR5E1841_ok 
theorem gateR5E1768_is : EnFOK Tryd.prog SQG gateR5E1768 := gateR5E1768_ok 
theorem gateR5E1695_is : EnFOK Tryd.prog SQG gateR5E1695 := gateR5E1695_ok 
theorem gateR5E1622_is : EnFOK Tryd.prog SQG gateR5E1622 := gateR5E1622_ok 
theorem gateR5E1549_is : EnFOK Tryd.prog SQG gateR5E1549 := gateR5E1549_ok 
theorem gateR5E1476_is : EnFOK Tryd.prog SQG gateR5E1476 := gateR5E1476_ok 
theorem gateR5E1403_is : EnFOK Tryd.prog SQG gateR5E1403 := gateR5E1403_ok 
theorem gateR5E1330_is : EnFOK Tryd.prog SQG gateR5E1330 := gateR5E1330_ok 
theorem gateR5E1257_is : EnFOK Tryd.prog SQG gateR5E1257 := gateR5E1257_ok 
theorem gateR5E1184_is : EnFOK Tryd.prog SQG gateR5E1184 := gateR5E1184_ok 
theorem gateR5E1111_is : EnFOK Tryd.prog SQG gateR5E1111 := gateR5E1111_ok 
theorem gateR5E1038_is : EnFOK Tryd.prog SQG gateR5E1038 := gateR5E1038_ok 
theorem gateR5E965_is : EnFOK Tryd.prog SQG gateR5E965 := gateR5E965_ok 
theorem gateR5E892_is : EnFOK Tryd.prog SQG gateR5E892 := gateR5E892_ok 
theorem gateR5E819_is : EnFOK Tryd.prog SQG gateR5E819 := gateR5E819_ok 
theorem gateR5E746_is : EnFOK Tryd.prog SQG gateR5E746 := gateR5E746_ok 
theorem gateR5E673_is : EnFOK Tryd.prog SQG gateR5E673 := gateR5E673_ok 
theorem gateR5E600_is : EnFOK Tryd.prog SQG gateR5E600 := gateR5E600_ok 
theorem gateR5E527_is : EnFOK Tryd.prog SQG gateR5E527 := gateR5E527_ok 
theorem gateR5E454_is : EnFOK Tryd.prog SQG gateR5E454 := gateR5E454_ok 
theorem gateR5E381_is : EnFOK Tryd.prog SQG gateR5E381 := gateR5E381_ok 
theorem gateR5E308_is : EnFOK Tryd.prog SQG gateR5E308 := gateR5E308_ok 
theorem gateR5E235_is : EnFOK Tryd.prog SQG gateR5E235 := gateR5E235_ok 
theorem gateR5E162_is : EnFOK Tryd.prog SQG gateR5E162 := gateR5E162_ok 
theorem gateR5E89_is : EnFOK Tryd.prog SQG gateR5E89 := gateR5E89_ok 
theorem gateR5E16_is : EnFOK Tryd.prog SQG gateR5E16 := gateR5E16_ok 
theorem gateR5E3_is : EnFOK Tryd.prog SQG gateR5E3 := gateR5E3_ok 
end Go.Proofs.YteibnmohoclocaaDoor
