/- satrapy/satrapylaw18.SeatDone: in parts: all of them. -/
import Derived.Test.YtllppcehncckfaaGreatDoorSeatD9nB0
import Derived.Test.YtllppcehncckfaaGreatDoorSeatD9nB1
import Derived.Test.YtllppcehncckfaaGreatDoorSeatD9nB2
import Derived.Test.YtllppcehncckfaaGreatDoorSeatD9nB3
import Derived.Test.YtllppcehncckfaaGreatDoorEwM9
import Derived.Test.YtllppcehncckfaaGreatDoorSortedAt2
import Derived.Test.YtllppcehncckfaaGreatDoorSeatKD
import Derived.ProofKit
namespace Go.Proofs.YtllppcehncckfaaGreatDoor
open Go.RowKit
set_option linter.unusedVariables false
set_option linter.unusedSimpArgs false
set_option maxRecDepth 100000

theorem seatD9nE1792_is : EnFOK Tryz.prog SQG seatD9nE1792 := seatD9nE1792_ok 
theorem seatD9nE1764_is : EnFOK Tryz.prog SQG seatD9nE1764 := seatD9nE1764_ok 
theorem seatD9nE1718_is : EnFOK Tryz.prog SQG seatD9nE1718 := seatD9nE1718_ok 
theorem seatD9nE1711_is : EnFOK Tryz.prog SQG seatD9nE1711 := seatD9nE1711_ok seatD9nE1718_is seatD9nE1764_is
theorem seatD9nE1602_is : EnFOK Tryz.prog SQG seatD9nE1602 := seatD9nE1602_ok 
theorem seatD9nE1598_is : EnFOK Tryz.prog SQG seatD9nE1598 := seatD9nE1598_ok 
theorem seatD9nE1564_is : EnFOK Tryz.prog SQG seatD9nE1564 := seatD9nE1564_ok 
theorem seatD9nE1562_is : EnFOK Tryz.prog SQG seatD9nE1562 := seatD9nE1562_ok seatD9nE1564_is seatD9nE1598_is
theorem seatD9nE1527_is : EnFOK Tryz.prog SQG seatD9nE1527 := seatD9nE1527_ok 
theorem seatD9nE1493_is : EnFOK Tryz.prog SQG seatD9nE1493 := seatD9nE1493_ok 
theorem seatD9nE1473_is : EnFOK Tryz.prog SQG seatD9nE1473 := seatD9nE1473_ok seatD9nE1493_is
theorem seatD9nE1448_is : EnFOK Tryz.prog SQG seatD9nE1448 := seatD9nE1448_ok seatD9nE1473_is
theorem seatD9nE1443_is : EnFOK Tryz.prog SQG seatD9nE1443 := seatD9nE1443_ok 
theorem seatD9nE1397_is : EnFOK Tryz.prog SQG seatD9nE1397 := seatD9nE1397_ok 
theorem seatD9nE1390_is : EnFOK Tryz.prog SQG seatD9nE1390 := seatD9nE1390_ok seatD9nE1397_is seatD9nE1443_is
theorem seatD9nE1244_is : EnFOK Tryz.prog SQG seatD9nE1244 := seatD9nE1244_ok 
theorem seatD9nE1137_is : EnFOK Tryz.prog SQG seatD9nE1137 := seatD9nE1137_ok 
theorem seatD9nE1136_is : EnFOK Tryz.prog SQG seatD9nE1136 := seatD9nE1136_ok seatD9nE1137_is seatD9nE1244_is
theorem seatD9nE1133_is : EnFOK Tryz.prog SQG seatD9nE1133 := seatD9nE1133_ok 
theorem seatD9nE1099_is : EnFOK Tryz.prog SQG seatD9nE1099 := seatD9nE1099_ok 
theorem seatD9nE1095_is : EnFOK Tryz.prog SQG seatD9nE1095 := seatD9nE1095_ok seatD9nE1099_is seatD9nE1133_is seatD9nE1136_is seatD9nE1390_is seatD9nE1448_is seatD9nE1527_is
theorem seatD9nE1054_is : EnFOK Tryz.prog SQG seatD9nE1054 := seatD9nE1054_ok 
theorem seatD9nE1030_is : EnFOK Tryz.prog SQG seatD9nE1030 := seatD9nE1030_ok 
theorem seatD9nE1006_is : EnFOK Tryz.prog SQG seatD9nE1006 := seatD9nE1006_ok 
theorem seatD9nE965_is : EnFOK Tryz.prog SQG seatD9nE965 := seatD9nE965_ok 
theorem seatD9nE941_is : EnFOK Tryz.prog SQG seatD9nE941 := seatD9nE941_ok 
theorem seatD9nE917_is : EnFOK Tryz.prog SQG seatD9nE917 := seatD9nE917_ok 
theorem seatD9nE876_is : EnFOK Tryz.prog SQG seatD9nE876 := seatD9nE876_ok 
theorem seatD9nE852_is : EnFOK Tryz.prog SQG seatD9nE852 := seatD9nE852_ok 
theorem seatD9nE828_is : EnFOK Tryz.prog SQG seatD9nE828 := seatD9nE828_ok 
theorem seatD9nE787_is : EnFOK Tryz.prog SQG seatD9nE787 := seatD9nE787_ok 
theorem seatD9nE763_is : EnFOK Tryz.prog SQG seatD9nE763 := seatD9nE763_ok 
theorem seatD9nE739_is : EnFOK Tryz.prog SQG seatD9nE739 := seatD9nE739_ok 
theorem seatD9nE698_is : EnFOK Tryz.prog SQG seatD9nE698 := seatD9nE698_ok 
theorem seatD9nE674_is : EnFOK Tryz.prog SQG seatD9nE674 := seatD9nE674_ok 
theorem seatD9nE650_is : EnFOK Tryz.prog SQG seatD9nE650 := seatD9nE650_ok 
theorem seatD9nE610_is : EnFOK Tryz.prog SQG seatD9nE610 := seatD9nE610_ok 
theorem seatD9nE590_is : EnFOK Tryz.prog SQG seatD9nE590 := seatD9nE590_ok seatD9nE610_is
theorem seatD9nE570_is : EnFOK Tryz.prog SQG seatD9nE570 := seatD9nE570_ok 
theorem seatD9nE555_is : EnFOK Tryz.prog SQG seatD9nE555 := seatD9nE555_ok seatD9nE570_is seatD9nE590_is
theorem seatD9nE437_is : EnFOK Tryz.prog SQG seatD9nE437 := seatD9nE437_ok 
theorem seatD9nE382_is : EnFOK Tryz.prog SQG seatD9nE382 := seatD9nE382_ok seatD9nE437_is
theorem seatD9nE381_is : EnFOK Tryz.prog SQG seatD9nE381 := seatD9nE381_ok seatD9nE382_is seatD9nE555_is
theorem seatD9nE357_is : EnFOK Tryz.prog SQG seatD9nE357 := seatD9nE357_ok 
theorem seatD9nE333_is : EnFOK Tryz.prog SQG seatD9nE333 := seatD9nE333_ok 
theorem seatD9nE309_is : EnFOK Tryz.prog SQG seatD9nE309 := seatD9nE309_ok 
theorem seatD9nE285_is : EnFOK Tryz.prog SQG seatD9nE285 := seatD9nE285_ok 
theorem seatD9nE261_is : EnFOK Tryz.prog SQG seatD9nE261 := seatD9nE261_ok 
theorem seatD9nE237_is : EnFOK Tryz.prog SQG seatD9nE237 := seatD9nE237_ok 
theorem seatD9nE213_is : EnFOK Tryz.prog SQG seatD9nE213 := seatD9nE213_ok 
theorem seatD9nE189_is : EnFOK Tryz.prog SQG seatD9nE189 := seatD9nE189_ok 
theorem seatD9nE165_is : EnFOK Tryz.prog SQG seatD9nE165 := seatD9nE165_ok 
theorem seatD9nE125_is : EnFOK Tryz.prog SQG seatD9nE125 := seatD9nE125_ok 
theorem seatD9nE111_is : EnFOK Tryz.prog SQG seatD9nE111 := seatD9nE111_ok seatD9nE125_is
theorem seatD9nE97_is : EnFOK Tryz.prog SQG seatD9nE97 := seatD9nE97_ok seatD9nE111_is
theorem seatD9nE32_is : EnFOK Tryz.prog SQG seatD9nE32 := seatD9nE32_ok 
theorem seatD9nE1_is : EnFOK Tryz.prog SQG seatD9nE1 := seatD9nE1_ok seatD9nE32_is seatD9nE97_is
end Go.Proofs.YtllppcehncckfaaGreatDoor
