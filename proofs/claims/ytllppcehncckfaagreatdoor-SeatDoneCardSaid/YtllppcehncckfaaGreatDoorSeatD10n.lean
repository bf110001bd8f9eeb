/- satrapy/satrapylaw18.SeatDone: in parts: all of them. -/
import Derived.Test.YtllppcehncckfaaGreatDoorSeatD10nB0
import Derived.Test.YtllppcehncckfaaGreatDoorSeatD10nB1
import Derived.Test.YtllppcehncckfaaGreatDoorSeatD10nB2
import Derived.Test.YtllppcehncckfaaGreatDoorSeatD10nB3
import Derived.Test.YtllppcehncckfaaGreatDoorEwM9
import Derived.Test.YtllppcehncckfaaGreatDoorSortedAt2
import Derived.Test.YtllppcehncckfaaGreatDoorSeatKD
import Derived.ProofKit
namespace Go.Proofs.YtllppcehncckfaaGreatDoor
open Go.RowKit
set_option linter.unusedVariables false
set_option linter.unusedSimpArgs false
set_option maxRecDepth 100000

theorem seatD10nE1792_is : EnFOK Tryz.prog SQG seatD10nE1792 := seatD10nE1792_ok 
theorem seatD10nE1764_is : EnFOK Tryz.prog SQG seatD10nE1764 := seatD10nE1764_ok 
theorem seatD10nE1718_is : EnFOK Tryz.prog SQG seatD10nE1718 := seatD10nE1718_ok 
theorem seatD10nE1711_is : EnFOK Tryz.prog SQG seatD10nE1711 := seatD10nE1711_ok seatD10nE1718_is seatD10nE1764_is
theorem seatD10nE1602_is : EnFOK Tryz.prog SQG seatD10nE1602 := seatD10nE1602_ok 
theorem seatD10nE1598_is : EnFOK Tryz.prog SQG seatD10nE1598 := seatD10nE1598_ok 
theorem seatD10nE1564_is : EnFOK Tryz.prog SQG seatD10nE1564 := seatD10nE1564_ok 
theorem seatD10nE1562_is : EnFOK Tryz.prog SQG seatD10nE1562 := seatD10nE1562_ok seatD10nE1564_is seatD10nE1598_is
theorem seatD10nE1527_is : EnFOK Tryz.prog SQG seatD10nE1527 := seatD10nE1527_ok 
theorem seatD10nE1493_is : EnFOK Tryz.prog SQG seatD10nE1493 := seatD10nE1493_ok 
theorem seatD10nE1473_is : EnFOK Tryz.prog SQG seatD10nE1473 := seatD10nE1473_ok seatD10nE1493_is
theorem seatD10nE1448_is : EnFOK Tryz.prog SQG seatD10nE1448 := seatD10nE1448_ok seatD10nE1473_is
theorem seatD10nE1443_is : EnFOK Tryz.prog SQG seatD10nE1443 := seatD10nE1443_ok 
theorem seatD10nE1397_is : EnFOK Tryz.prog SQG seatD10nE1397 := seatD10nE1397_ok 
theorem seatD10nE1390_is : EnFOK Tryz.prog SQG seatD10nE1390 := seatD10nE1390_ok seatD10nE1397_is seatD10nE1443_is
theorem seatD10nE1247_is : EnFOK Tryz.prog SQG seatD10nE1247 := seatD10nE1247_ok 
theorem seatD10nE1207_is : EnFOK Tryz.prog SQG seatD10nE1207 := seatD10nE1207_ok seatD10nE1247_is
theorem seatD10nE1137_is : EnFOK Tryz.prog SQG seatD10nE1137 := seatD10nE1137_ok 
theorem seatD10nE1136_is : EnFOK Tryz.prog SQG seatD10nE1136 := seatD10nE1136_ok seatD10nE1137_is seatD10nE1207_is
theorem seatD10nE1133_is : EnFOK Tryz.prog SQG seatD10nE1133 := seatD10nE1133_ok 
theorem seatD10nE1099_is : EnFOK Tryz.prog SQG seatD10nE1099 := seatD10nE1099_ok 
theorem seatD10nE1095_is : EnFOK Tryz.prog SQG seatD10nE1095 := seatD10nE1095_ok seatD10nE1099_is seatD10nE1133_is seatD10nE1136_is seatD10nE1390_is seatD10nE1448_is seatD10nE1527_is
theorem seatD10nE1054_is : EnFOK Tryz.prog SQG seatD10nE1054 := seatD10nE1054_ok 
theorem seatD10nE1030_is : EnFOK Tryz.prog SQG seatD10nE1030 := seatD10nE1030_ok 
theorem seatD10nE1006_is : EnFOK Tryz.prog SQG seatD10nE1006 := seatD10nE1006_ok 
theorem seatD10nE965_is : EnFOK Tryz.prog SQG seatD10nE965 := seatD10nE965_ok 
theorem seatD10nE941_is : EnFOK Tryz.prog SQG seatD10nE941 := seatD10nE941_ok 
theorem seatD10nE917_is : EnFOK Tryz.prog SQG seatD10nE917 := seatD10nE917_ok 
theorem seatD10nE876_is : EnFOK Tryz.prog SQG seatD10nE876 := seatD10nE876_ok 
theorem seatD10nE852_is : EnFOK Tryz.prog SQG seatD10nE852 := seatD10nE852_ok 
theorem seatD10nE828_is : EnFOK Tryz.prog SQG seatD10nE828 := seatD10nE828_ok 
theorem seatD10nE787_is : EnFOK Tryz.prog SQG seatD10nE787 := seatD10nE787_ok 
theorem seatD10nE763_is : EnFOK Tryz.prog SQG seatD10nE763 := seatD10nE763_ok 
theorem seatD10nE739_is : EnFOK Tryz.prog SQG seatD10nE739 := seatD10nE739_ok 
theorem seatD10nE698_is : EnFOK Tryz.prog SQG seatD10nE698 := seatD10nE698_ok 
theorem seatD10nE674_is : EnFOK Tryz.prog SQG seatD10nE674 := seatD10nE674_ok 
theorem seatD10nE650_is : EnFOK Tryz.prog SQG seatD10nE650 := seatD10nE650_ok 
theorem seatD10nE610_is : EnFOK Tryz.prog SQG seatD10nE610 := seatD10nE610_ok 
theorem seatD10nE590_is : EnFOK Tryz.prog SQG seatD10nE590 := seatD10nE590_ok seatD10nE610_is
theorem seatD10nE555_is : EnFOK Tryz.prog SQG seatD10nE555 := seatD10nE555_ok seatD10nE590_is
theorem seatD10nE437_is : EnFOK Tryz.prog SQG seatD10nE437 := seatD10nE437_ok 
theorem seatD10nE382_is : EnFOK Tryz.prog SQG seatD10nE382 := seatD10nE382_ok seatD10nE437_is
theorem seatD10nE381_is : EnFOK Tryz.prog SQG seatD10nE381 := seatD10nE381_ok seatD10nE382_is seatD10nE555_is
theorem seatD10nE357_is : EnFOK Tryz.prog SQG seatD10nE357 := seatD10nE357_ok 
theorem seatD10nE333_is : EnFOK Tryz.prog SQG seatD10nE333 := seatD10nE333_ok 
theorem seatD10nE309_is : EnFOK Tryz.prog SQG seatD10nE309 := seatD10nE309_ok 
theorem seatD10nE285_is : EnFOK Tryz.prog SQG seatD10nE285 := seatD10nE285_ok 
theorem seatD10nE261_is : EnFOK Tryz.prog SQG seatD10nE261 := seatD10nE261_ok 
theorem seatD10nE237_is : EnFOK Tryz.prog SQG seatD10nE237 := seatD10nE237_ok 
theorem seatD10nE213_is : EnFOK Tryz.prog SQG seatD10nE213 := seatD10nE213_ok 
theorem seatD10nE189_is : EnFOK Tryz.prog SQG seatD10nE189 := seatD10nE189_ok 
theorem seatD10nE165_is : EnFOK Tryz.prog SQG seatD10nE165 := seatD10nE165_ok 
theorem seatD10nE125_is : EnFOK Tryz.prog SQG seatD10nE125 := seatD10nE125_ok 
theorem seatD10nE111_is : EnFOK Tryz.prog SQG seatD10nE111 := seatD10nE111_ok seatD10nE125_is
theorem seatD10nE97_is : EnFOK Tryz.prog SQG seatD10nE97 := seatD10nE97_ok seatD10nE111_is
theorem seatD10nE32_is : EnFOK Tryz.prog SQG seatD10nE32 := seatD10nE32_ok 
theorem seatD10nE1_is : EnFOK Tryz.prog SQG seatD10nE1 := seatD10nE1_ok seatD10nE32_is seatD10nE97_is
end Go.Proofs.YtllppcehncckfaaGreatDoor
