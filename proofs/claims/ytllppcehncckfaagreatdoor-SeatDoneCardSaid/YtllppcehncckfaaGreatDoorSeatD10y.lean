/- satrapy/satrapylaw18.SeatDone: in parts: all of them. -/
import Derived.Test.YtllppcehncckfaaGreatDoorSeatD10yB0
import Derived.Test.YtllppcehncckfaaGreatDoorSeatD10yB1
import Derived.Test.YtllppcehncckfaaGreatDoorSeatD10yB2
import Derived.Test.YtllppcehncckfaaGreatDoorSeatD10yB3
import Derived.Test.YtllppcehncckfaaGreatDoorEwM9
import Derived.Test.YtllppcehncckfaaGreatDoorSortedAt2
import Derived.Test.YtllppcehncckfaaGreatDoorSeatKD
import Derived.ProofKit
namespace Go.Proofs.YtllppcehncckfaaGreatDoor
open Go.RowKit
set_option linter.unusedVariables false
set_option linter.unusedSimpArgs false
set_option maxRecDepth 100000

theorem seatD10yE2029_is : EnFOK Tryz.prog SQG seatD10yE2029 := seatD10yE2029_ok 
theorem seatD10yE2023_is : EnFOK Tryz.prog SQG seatD10yE2023 := seatD10yE2023_ok 
theorem seatD10yE1992_is : EnFOK Tryz.prog SQG seatD10yE1992 := seatD10yE1992_ok 
theorem seatD10yE1958_is : EnFOK Tryz.prog SQG seatD10yE1958 := seatD10yE1958_ok 
theorem seatD10yE1938_is : EnFOK Tryz.prog SQG seatD10yE1938 := seatD10yE1938_ok seatD10yE1958_is
theorem seatD10yE1908_is : EnFOK Tryz.prog SQG seatD10yE1908 := seatD10yE1908_ok 
theorem seatD10yE1862_is : EnFOK Tryz.prog SQG seatD10yE1862 := seatD10yE1862_ok 
theorem seatD10yE1855_is : EnFOK Tryz.prog SQG seatD10yE1855 := seatD10yE1855_ok seatD10yE1862_is seatD10yE1908_is
theorem seatD10yE1714_is : EnFOK Tryz.prog SQG seatD10yE1714 := seatD10yE1714_ok 
theorem seatD10yE1602_is : EnFOK Tryz.prog SQG seatD10yE1602 := seatD10yE1602_ok 
theorem seatD10yE1598_is : EnFOK Tryz.prog SQG seatD10yE1598 := seatD10yE1598_ok 
theorem seatD10yE1564_is : EnFOK Tryz.prog SQG seatD10yE1564 := seatD10yE1564_ok 
theorem seatD10yE1562_is : EnFOK Tryz.prog SQG seatD10yE1562 := seatD10yE1562_ok seatD10yE1564_is seatD10yE1598_is
theorem seatD10yE1527_is : EnFOK Tryz.prog SQG seatD10yE1527 := seatD10yE1527_ok 
theorem seatD10yE1493_is : EnFOK Tryz.prog SQG seatD10yE1493 := seatD10yE1493_ok 
theorem seatD10yE1474_is : EnFOK Tryz.prog SQG seatD10yE1474 := seatD10yE1474_ok seatD10yE1493_is
theorem seatD10yE1448_is : EnFOK Tryz.prog SQG seatD10yE1448 := seatD10yE1448_ok seatD10yE1474_is
theorem seatD10yE1443_is : EnFOK Tryz.prog SQG seatD10yE1443 := seatD10yE1443_ok 
theorem seatD10yE1397_is : EnFOK Tryz.prog SQG seatD10yE1397 := seatD10yE1397_ok 
theorem seatD10yE1390_is : EnFOK Tryz.prog SQG seatD10yE1390 := seatD10yE1390_ok seatD10yE1397_is seatD10yE1443_is
theorem seatD10yE1344_is : EnFOK Tryz.prog SQG seatD10yE1344 := seatD10yE1344_ok 
theorem seatD10yE1247_is : EnFOK Tryz.prog SQG seatD10yE1247 := seatD10yE1247_ok 
theorem seatD10yE1207_is : EnFOK Tryz.prog SQG seatD10yE1207 := seatD10yE1207_ok seatD10yE1247_is
theorem seatD10yE1137_is : EnFOK Tryz.prog SQG seatD10yE1137 := seatD10yE1137_ok 
theorem seatD10yE1133_is : EnFOK Tryz.prog SQG seatD10yE1133 := seatD10yE1133_ok 
theorem seatD10yE1099_is : EnFOK Tryz.prog SQG seatD10yE1099 := seatD10yE1099_ok 
theorem seatD10yE1095_is : EnFOK Tryz.prog SQG seatD10yE1095 := seatD10yE1095_ok seatD10yE1099_is seatD10yE1133_is seatD10yE1137_is seatD10yE1207_is seatD10yE1344_is seatD10yE1390_is seatD10yE1448_is seatD10yE1527_is
theorem seatD10yE1054_is : EnFOK Tryz.prog SQG seatD10yE1054 := seatD10yE1054_ok 
theorem seatD10yE1030_is : EnFOK Tryz.prog SQG seatD10yE1030 := seatD10yE1030_ok 
theorem seatD10yE1006_is : EnFOK Tryz.prog SQG seatD10yE1006 := seatD10yE1006_ok 
theorem seatD10yE965_is : EnFOK Tryz.prog SQG seatD10yE965 := seatD10yE965_ok 
theorem seatD10yE941_is : EnFOK Tryz.prog SQG seatD10yE941 := seatD10yE941_ok 
theorem seatD10yE917_is : EnFOK Tryz.prog SQG seatD10yE917 := seatD10yE917_ok 
theorem seatD10yE876_is : EnFOK Tryz.prog SQG seatD10yE876 := seatD10yE876_ok 
theorem seatD10yE852_is : EnFOK Tryz.prog SQG seatD10yE852 := seatD10yE852_ok 
theorem seatD10yE828_is : EnFOK Tryz.prog SQG seatD10yE828 := seatD10yE828_ok 
theorem seatD10yE787_is : EnFOK Tryz.prog SQG seatD10yE787 := seatD10yE787_ok 
theorem seatD10yE763_is : EnFOK Tryz.prog SQG seatD10yE763 := seatD10yE763_ok 
theorem seatD10yE739_is : EnFOK Tryz.prog SQG seatD10yE739 := seatD10yE739_ok 
theorem seatD10yE698_is : EnFOK Tryz.prog SQG seatD10yE698 := seatD10yE698_ok 
theorem seatD10yE674_is : EnFOK Tryz.prog SQG seatD10yE674 := seatD10yE674_ok 
theorem seatD10yE650_is : EnFOK Tryz.prog SQG seatD10yE650 := seatD10yE650_ok 
theorem seatD10yE610_is : EnFOK Tryz.prog SQG seatD10yE610 := seatD10yE610_ok 
theorem seatD10yE590_is : EnFOK Tryz.prog SQG seatD10yE590 := seatD10yE590_ok seatD10yE610_is
theorem seatD10yE570_is : EnFOK Tryz.prog SQG seatD10yE570 := seatD10yE570_ok 
theorem seatD10yE555_is : EnFOK Tryz.prog SQG seatD10yE555 := seatD10yE555_ok seatD10yE570_is seatD10yE590_is
theorem seatD10yE437_is : EnFOK Tryz.prog SQG seatD10yE437 := seatD10yE437_ok 
theorem seatD10yE385_is : EnFOK Tryz.prog SQG seatD10yE385 := seatD10yE385_ok seatD10yE437_is
theorem seatD10yE381_is : EnFOK Tryz.prog SQG seatD10yE381 := seatD10yE381_ok seatD10yE385_is seatD10yE555_is
theorem seatD10yE357_is : EnFOK Tryz.prog SQG seatD10yE357 := seatD10yE357_ok 
theorem seatD10yE333_is : EnFOK Tryz.prog SQG seatD10yE333 := seatD10yE333_ok 
theorem seatD10yE309_is : EnFOK Tryz.prog SQG seatD10yE309 := seatD10yE309_ok 
theorem seatD10yE285_is : EnFOK Tryz.prog SQG seatD10yE285 := seatD10yE285_ok 
theorem seatD10yE261_is : EnFOK Tryz.prog SQG seatD10yE261 := seatD10yE261_ok 
theorem seatD10yE237_is : EnFOK Tryz.prog SQG seatD10yE237 := seatD10yE237_ok 
theorem seatD10yE213_is : EnFOK Tryz.prog SQG seatD10yE213 := seatD10yE213_ok 
theorem seatD10yE189_is : EnFOK Tryz.prog SQG seatD10yE189 := seatD10yE189_ok 
theorem seatD10yE165_is : EnFOK Tryz.prog SQG seatD10yE165 := seatD10yE165_ok 
theorem seatD10yE138_is : EnFOK Tryz.prog SQG seatD10yE138 := seatD10yE138_ok 
theorem seatD10yE125_is : EnFOK Tryz.prog SQG seatD10yE125 := seatD10yE125_ok 
theorem seatD10yE100_is : EnFOK Tryz.prog SQG seatD10yE100 := seatD10yE100_ok seatD10yE125_is seatD10yE138_is
theorem seatD10yE32_is : EnFOK Tryz.prog SQG seatD10yE32 := seatD10yE32_ok 
theorem seatD10yE4_is : EnFOK Tryz.prog SQG seatD10yE4 := seatD10yE4_ok seatD10yE32_is seatD10yE100_is
theorem seatD10yE1_is : EnFOK Tryz.prog SQG seatD10yE1 := seatD10yE1_ok seatD10yE4_is
end Go.Proofs.YtllppcehncckfaaGreatDoor
