/- satrapy/satrapylaw18.SeatDone: in parts: all of them. -/
import Derived.Test.YtllppcehncckfaaGreatDoorSeatD9yB0
import Derived.Test.YtllppcehncckfaaGreatDoorSeatD9yB1
import Derived.Test.YtllppcehncckfaaGreatDoorSeatD9yB2
import Derived.Test.YtllppcehncckfaaGreatDoorSeatD9yB3
import Derived.Test.YtllppcehncckfaaGreatDoorEwM9
import Derived.Test.YtllppcehncckfaaGreatDoorSortedAt2
import Derived.Test.YtllppcehncckfaaGreatDoorSeatKD
import Derived.ProofKit
namespace Go.Proofs.YtllppcehncckfaaGreatDoor
open Go.RowKit
set_option linter.unusedVariables false
set_option linter.unusedSimpArgs false
set_option maxRecDepth 100000

theorem seatD9yE2029_is : EnFOK Tryz.prog SQG seatD9yE2029 := seatD9yE2029_ok 
theorem seatD9yE2023_is : EnFOK Tryz.prog SQG seatD9yE2023 := seatD9yE2023_ok 
theorem seatD9yE1992_is : EnFOK Tryz.prog SQG seatD9yE1992 := seatD9yE1992_ok 
theorem seatD9yE1958_is : EnFOK Tryz.prog SQG seatD9yE1958 := seatD9yE1958_ok 
theorem seatD9yE1938_is : EnFOK Tryz.prog SQG seatD9yE1938 := seatD9yE1938_ok seatD9yE1958_is
theorem seatD9yE1908_is : EnFOK Tryz.prog SQG seatD9yE1908 := seatD9yE1908_ok 
theorem seatD9yE1862_is : EnFOK Tryz.prog SQG seatD9yE1862 := seatD9yE1862_ok 
theorem seatD9yE1855_is : EnFOK Tryz.prog SQG seatD9yE1855 := seatD9yE1855_ok seatD9yE1862_is seatD9yE1908_is
theorem seatD9yE1714_is : EnFOK Tryz.prog SQG seatD9yE1714 := seatD9yE1714_ok 
theorem seatD9yE1602_is : EnFOK Tryz.prog SQG seatD9yE1602 := seatD9yE1602_ok 
theorem seatD9yE1598_is : EnFOK Tryz.prog SQG seatD9yE1598 := seatD9yE1598_ok 
theorem seatD9yE1564_is : EnFOK Tryz.prog SQG seatD9yE1564 := seatD9yE1564_ok 
theorem seatD9yE1562_is : EnFOK Tryz.prog SQG seatD9yE1562 := seatD9yE1562_ok seatD9yE1564_is seatD9yE1598_is
theorem seatD9yE1527_is : EnFOK Tryz.prog SQG seatD9yE1527 := seatD9yE1527_ok 
theorem seatD9yE1493_is : EnFOK Tryz.prog SQG seatD9yE1493 := seatD9yE1493_ok 
theorem seatD9yE1473_is : EnFOK Tryz.prog SQG seatD9yE1473 := seatD9yE1473_ok seatD9yE1493_is
theorem seatD9yE1448_is : EnFOK Tryz.prog SQG seatD9yE1448 := seatD9yE1448_ok seatD9yE1473_is
theorem seatD9yE1443_is : EnFOK Tryz.prog SQG seatD9yE1443 := seatD9yE1443_ok 
theorem seatD9yE1397_is : EnFOK Tryz.prog SQG seatD9yE1397 := seatD9yE1397_ok 
theorem seatD9yE1390_is : EnFOK Tryz.prog SQG seatD9yE1390 := seatD9yE1390_ok seatD9yE1397_is seatD9yE1443_is
theorem seatD9yE1244_is : EnFOK Tryz.prog SQG seatD9yE1244 := seatD9yE1244_ok 
theorem seatD9yE1137_is : EnFOK Tryz.prog SQG seatD9yE1137 := seatD9yE1137_ok 
theorem seatD9yE1136_is : EnFOK Tryz.prog SQG seatD9yE1136 := seatD9yE1136_ok seatD9yE1137_is seatD9yE1244_is
theorem seatD9yE1133_is : EnFOK Tryz.prog SQG seatD9yE1133 := seatD9yE1133_ok 
theorem seatD9yE1099_is : EnFOK Tryz.prog SQG seatD9yE1099 := seatD9yE1099_ok 
theorem seatD9yE1095_is : EnFOK Tryz.prog SQG seatD9yE1095 := seatD9yE1095_ok seatD9yE1099_is seatD9yE1133_is seatD9yE1136_is seatD9yE1390_is seatD9yE1448_is seatD9yE1527_is
theorem seatD9yE1054_is : EnFOK Tryz.prog SQG seatD9yE1054 := seatD9yE1054_ok 
theorem seatD9yE1030_is : EnFOK Tryz.prog SQG seatD9yE1030 := seatD9yE1030_ok 
theorem seatD9yE1006_is : EnFOK Tryz.prog SQG seatD9yE1006 := seatD9yE1006_ok 
theorem seatD9yE965_is : EnFOK Tryz.prog SQG seatD9yE965 := seatD9yE965_ok 
theorem seatD9yE941_is : EnFOK Tryz.prog SQG seatD9yE941 := seatD9yE941_ok 
theorem seatD9yE917_is : EnFOK Tryz.prog SQG seatD9yE917 := seatD9yE917_ok 
theorem seatD9yE876_is : EnFOK Tryz.prog SQG seatD9yE876 := seatD9yE876_ok 
theorem seatD9yE852_is : EnFOK Tryz.prog SQG seatD9yE852 := seatD9yE852_ok 
theorem seatD9yE828_is : EnFOK Tryz.prog SQG seatD9yE828 := seatD9yE828_ok 
theorem seatD9yE787_is : EnFOK Tryz.prog SQG seatD9yE787 := seatD9yE787_ok 
theorem seatD9yE763_is : EnFOK Tryz.prog SQG seatD9yE763 := seatD9yE763_ok 
theorem seatD9yE739_is : EnFOK Tryz.prog SQG seatD9yE739 := seatD9yE739_ok 
theorem seatD9yE698_is : EnFOK Tryz.prog SQG seatD9yE698 := seatD9yE698_ok 
theorem seatD9yE674_is : EnFOK Tryz.prog SQG seatD9yE674 := seatD9yE674_ok 
theorem seatD9yE650_is : EnFOK Tryz.prog SQG seatD9yE650 := seatD9yE650_ok 
theorem seatD9yE610_is : EnFOK Tryz.prog SQG seatD9yE610 := seatD9yE610_ok 
theorem seatD9yE590_is : EnFOK Tryz.prog SQG seatD9yE590 := seatD9yE590_ok seatD9yE610_is
theorem seatD9yE555_is : EnFOK Tryz.prog SQG seatD9yE555 := seatD9yE555_ok seatD9yE590_is
theorem seatD9yE437_is : EnFOK Tryz.prog SQG seatD9yE437 := seatD9yE437_ok 
theorem seatD9yE383_is : EnFOK Tryz.prog SQG seatD9yE383 := seatD9yE383_ok seatD9yE437_is
theorem seatD9yE381_is : EnFOK Tryz.prog SQG seatD9yE381 := seatD9yE381_ok seatD9yE383_is seatD9yE555_is
theorem seatD9yE357_is : EnFOK Tryz.prog SQG seatD9yE357 := seatD9yE357_ok 
theorem seatD9yE333_is : EnFOK Tryz.prog SQG seatD9yE333 := seatD9yE333_ok 
theorem seatD9yE309_is : EnFOK Tryz.prog SQG seatD9yE309 := seatD9yE309_ok 
theorem seatD9yE285_is : EnFOK Tryz.prog SQG seatD9yE285 := seatD9yE285_ok 
theorem seatD9yE261_is : EnFOK Tryz.prog SQG seatD9yE261 := seatD9yE261_ok 
theorem seatD9yE237_is : EnFOK Tryz.prog SQG seatD9yE237 := seatD9yE237_ok 
theorem seatD9yE213_is : EnFOK Tryz.prog SQG seatD9yE213 := seatD9yE213_ok 
theorem seatD9yE189_is : EnFOK Tryz.prog SQG seatD9yE189 := seatD9yE189_ok 
theorem seatD9yE165_is : EnFOK Tryz.prog SQG seatD9yE165 := seatD9yE165_ok 
theorem seatD9yE125_is : EnFOK Tryz.prog SQG seatD9yE125 := seatD9yE125_ok 
theorem seatD9yE111_is : EnFOK Tryz.prog SQG seatD9yE111 := seatD9yE111_ok seatD9yE125_is
theorem seatD9yE97_is : EnFOK Tryz.prog SQG seatD9yE97 := seatD9yE97_ok seatD9yE111_is
theorem seatD9yE32_is : EnFOK Tryz.prog SQG seatD9yE32 := seatD9yE32_ok 
theorem seatD9yE1_is : EnFOK Tryz.prog SQG seatD9yE1 := seatD9yE1_ok seatD9yE32_is seatD9yE97_is
end Go.Proofs.YtllppcehncckfaaGreatDoor
