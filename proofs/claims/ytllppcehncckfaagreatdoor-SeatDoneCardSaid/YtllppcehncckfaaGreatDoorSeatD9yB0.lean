/- satrapy/satrapylaw18.SeatDone: in parts: the parts (0). -/
import Derived.Test.YtllppcehncckfaaGreatDoorSeatD9yD
import Derived.Test.YtllppcehncckfaaGreatDoorEwM9
import Derived.Test.YtllppcehncckfaaGreatDoorSortedAt2
import Derived.Test.YtllppcehncckfaaGreatDoorSeatKD
import Derived.ProofKit
namespace Go.Proofs.YtllppcehncckfaaGreatDoor
open Go.RowKit
set_option linter.unusedVariables false
set_option linter.unusedSimpArgs false
set_option maxRecDepth 100000

theorem seatD9yE1602_ok  : EnFOK Tryz.prog SQG seatD9yE1602 := EnFOK.of_fastD evMixed evNames seatD9yOrc_ok (tableL_self _) (tabE_ok (es := []) allNil) (n := 90) (fuel := 100000) (fun s t => rfl) (fun s t => by kernel_rfl)
theorem seatD9yE1136_ok (h1137 : EnFOK Tryz.prog SQG seatD9yE1137) (h1244 : EnFOK Tryz.prog SQG seatD9yE1244) : EnFOK Tryz.prog SQG seatD9yE1136 := EnFOK.of_fastD evMixed evNames seatD9yOrc_ok (tableL_self _) (tabE_ok (es := [seatD9yE1137, seatD9yE1244]) (allCons h1137 (allCons h1244 allNil))) (n := 90) (fuel := 100000) (fun s t => rfl) (fun s t => by kernel_rfl)
theorem seatD9yE1855_ok (h1862 : EnFOK Tryz.prog SQG seatD9yE1862) (h1908 : EnFOK Tryz.prog SQG seatD9yE1908) : EnFOK Tryz.prog SQG seatD9yE1855 := EnFOK.of_fastD evMixed evNames seatD9yOrc_ok (tableL_self _) (tabE_ok (es := [seatD9yE1862, seatD9yE1908]) (allCons h1862 (allCons h1908 allNil))) (n := 90) (fuel := 100000) (fun s t => rfl) (fun s t => by kernel_rfl)
theorem seatD9yE1390_ok (h1397 : EnFOK Tryz.prog SQG seatD9yE1397) (h1443 : EnFOK Tryz.prog SQG seatD9yE1443) : EnFOK Tryz.prog SQG seatD9yE1390 := EnFOK.of_fastD evMixed evNames seatD9yOrc_ok (tableL_self _) (tabE_ok (es := [seatD9yE1397, seatD9yE1443]) (allCons h1397 (allCons h1443 allNil))) (n := 90) (fuel := 100000) (fun s t => rfl) (fun s t => by kernel_rfl)
theorem seatD9yE698_ok  : EnFOK Tryz.prog SQG seatD9yE698 := EnFOK.of_fastD evMixed evNames seatD9yOrc_ok (tableL_self _) (tabE_ok (es := []) allNil) (n := 90) (fuel := 100000) (fun s t => rfl) (fun s t => by kernel_rfl)
theorem seatD9yE787_ok  : EnFOK Tryz.prog SQG seatD9yE787 := EnFOK.of_fastD evMixed evNames seatD9yOrc_ok (tableL_self _) (tabE_ok (es := []) allNil) (n := 90) (fuel := 100000) (fun s t => rfl) (fun s t => by kernel_rfl)
theorem seatD9yE309_ok  : EnFOK Tryz.prog SQG seatD9yE309 := EnFOK.of_fastD evMixed evNames seatD9yOrc_ok (tableL_self _) (tabE_ok (es := []) allNil) (n := 90) (fuel := 100000) (fun s t => rfl) (fun s t => by kernel_rfl)
theorem seatD9yE674_ok  : EnFOK Tryz.prog SQG seatD9yE674 := EnFOK.of_fastD evMixed evNames seatD9yOrc_ok (tableL_self _) (tabE_ok (es := []) allNil) (n := 90) (fuel := 100000) (fun s t => rfl) (fun s t => by kernel_rfl)
theorem seatD9yE852_ok  : EnFOK Tryz.prog SQG seatD9yE852 := EnFOK.of_fastD evMixed evNames seatD9yOrc_ok (tableL_self _) (tabE_ok (es := []) allNil) (n := 90) (fuel := 100000) (fun s t => rfl) (fun s t => by kernel_rfl)
theorem seatD9yE213_ok  : EnFOK Tryz.prog SQG seatD9yE213 := EnFOK.of_fastD evMixed evNames seatD9yOrc_ok (tableL_self _) (tabE_ok (es := []) allNil) (n := 90) (fuel := 100000) (fun s t => rfl) (fun s t => by kernel_rfl)
theorem seatD9yE357_ok  : EnFOK Tryz.prog SQG seatD9yE357 := EnFOK.of_fastD evMixed evNames seatD9yOrc_ok (tableL_self _) (tabE_ok (es := []) allNil) (n := 90) (fuel := 100000) (fun s t => rfl) (fun s t => by kernel_rfl)
theorem seatD9yE1099_ok  : EnFOK Tryz.prog SQG seatD9yE1099 := EnFOK.of_fastD evMixed evNames seatD9yOrc_ok (tableL_self _) (tabE_ok (es := []) allNil) (n := 90) (fuel := 100000) (fun s t => rfl) (fun s t => by kernel_rfl)
theorem seatD9yE1562_ok (h1564 : EnFOK Tryz.prog SQG seatD9yE1564) (h1598 : EnFOK Tryz.prog SQG seatD9yE1598) : EnFOK Tryz.prog SQG seatD9yE1562 := EnFOK.of_fastD evMixed evNames seatD9yOrc_ok (tableL_self _) (tabE_ok (es := [seatD9yE1564, seatD9yE1598]) (allCons h1564 (allCons h1598 allNil))) (n := 90) (fuel := 100000) (fun s t => rfl) (fun s t => by kernel_rfl)
theorem seatD9yE1397_ok  : EnFOK Tryz.prog SQG seatD9yE1397 := EnFOK.of_fastD evMixed evNames seatD9yOrc_ok (tableL_self _) (tabE_ok (es := []) allNil) (n := 90) (fuel := 100000) (fun s t => rfl) (fun s t => by kernel_rfl)
theorem seatD9yE1493_ok  : EnFOK Tryz.prog SQG seatD9yE1493 := EnFOK.of_fastD evMixed evNames seatD9yOrc_ok (tableL_self _) (tabE_ok (es := []) allNil) (n := 90) (fuel := 100000) (fun s t => rfl) (fun s t => by kernel_rfl)
theorem seatD9yE1958_ok  : EnFOK Tryz.prog SQG seatD9yE1958 := EnFOK.of_fastD evMixed evNames seatD9yOrc_ok (tableL_self _) (tabE_ok (es := []) allNil) (n := 90) (fuel := 100000) (fun s t => rfl) (fun s t => by kernel_rfl)
end Go.Proofs.YtllppcehncckfaaGreatDoor
