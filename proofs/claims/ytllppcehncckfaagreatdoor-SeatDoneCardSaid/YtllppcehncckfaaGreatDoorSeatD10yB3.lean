/- satrapy/satrapylaw18.SeatDone: in parts: the parts (3). -/
import Derived.Test.YtllppcehncckfaaGreatDoorSeatD10yD
import Derived.Test.YtllppcehncckfaaGreatDoorEwM9
import Derived.Test.YtllppcehncckfaaGreatDoorSortedAt2
import Derived.Test.YtllppcehncckfaaGreatDoorSeatKD
import Derived.ProofKit
namespace Go.Proofs.YtllppcehncckfaaGreatDoor
open Go.RowKit
set_option linter.unusedVariables false
set_option linter.unusedSimpArgs false
set_option maxRecDepth 100000

theorem seatD10yE437_ok  : EnFOK Tryz.prog SQG seatD10yE437 := EnFOK.of_fastD evMixed evNames seatD10yOrc_ok (tableL_self _) (tabE_ok (es := []) allNil) (n := 90) (fuel := 100000) (fun s t => rfl) (fun s t => by kernel_rfl)
theorem seatD10yE555_ok (h570 : EnFOK Tryz.prog SQG seatD10yE570) (h590 : EnFOK Tryz.prog SQG seatD10yE590) : EnFOK Tryz.prog SQG seatD10yE555 := EnFOK.of_fastD evMixed evNames seatD10yOrc_ok (tableL_self _) (tabE_ok (es := [seatD10yE570, seatD10yE590]) (allCons h570 (allCons h590 allNil))) (n := 90) (fuel := 100000) (fun s t => rfl) (fun s t => by kernel_rfl)
theorem seatD10yE1390_ok (h1397 : EnFOK Tryz.prog SQG seatD10yE1397) (h1443 : EnFOK Tryz.prog SQG seatD10yE1443) : EnFOK Tryz.prog SQG seatD10yE1390 := EnFOK.of_fastD evMixed evNames seatD10yOrc_ok (tableL_self _) (tabE_ok (es := [seatD10yE1397, seatD10yE1443]) (allCons h1397 (allCons h1443 allNil))) (n := 90) (fuel := 100000) (fun s t => rfl) (fun s t => by kernel_rfl)
theorem seatD10yE876_ok  : EnFOK Tryz.prog SQG seatD10yE876 := EnFOK.of_fastD evMixed evNames seatD10yOrc_ok (tableL_self _) (tabE_ok (es := []) allNil) (n := 90) (fuel := 100000) (fun s t => rfl) (fun s t => by kernel_rfl)
theorem seatD10yE1992_ok  : EnFOK Tryz.prog SQG seatD10yE1992 := EnFOK.of_fastD evMixed evNames seatD10yOrc_ok (tableL_self _) (tabE_ok (es := []) allNil) (n := 90) (fuel := 100000) (fun s t => rfl) (fun s t => by kernel_rfl)
theorem seatD10yE917_ok  : EnFOK Tryz.prog SQG seatD10yE917 := EnFOK.of_fastD evMixed evNames seatD10yOrc_ok (tableL_self _) (tabE_ok (es := []) allNil) (n := 90) (fuel := 100000) (fun s t => rfl) (fun s t => by kernel_rfl)
theorem seatD10yE828_ok  : EnFOK Tryz.prog SQG seatD10yE828 := EnFOK.of_fastD evMixed evNames seatD10yOrc_ok (tableL_self _) (tabE_ok (es := []) allNil) (n := 90) (fuel := 100000) (fun s t => rfl) (fun s t => by kernel_rfl)
theorem seatD10yE674_ok  : EnFOK Tryz.prog SQG seatD10yE674 := EnFOK.of_fastD evMixed evNames seatD10yOrc_ok (tableL_self _) (tabE_ok (es := []) allNil) (n := 90) (fuel := 100000) (fun s t => rfl) (fun s t => by kernel_rfl)
theorem seatD10yE650_ok  : EnFOK Tryz.prog SQG seatD10yE650 := EnFOK.of_fastD evMixed evNames seatD10yOrc_ok (tableL_self _) (tabE_ok (es := []) allNil) (n := 90) (fuel := 100000) (fun s t => rfl) (fun s t => by kernel_rfl)
theorem seatD10yE763_ok  : EnFOK Tryz.prog SQG seatD10yE763 := EnFOK.of_fastD evMixed evNames seatD10yOrc_ok (tableL_self _) (tabE_ok (es := []) allNil) (n := 90) (fuel := 100000) (fun s t => rfl) (fun s t => by kernel_rfl)
theorem seatD10yE285_ok  : EnFOK Tryz.prog SQG seatD10yE285 := EnFOK.of_fastD evMixed evNames seatD10yOrc_ok (tableL_self _) (tabE_ok (es := []) allNil) (n := 90) (fuel := 100000) (fun s t => rfl) (fun s t => by kernel_rfl)
theorem seatD10yE385_ok (h437 : EnFOK Tryz.prog SQG seatD10yE437) : EnFOK Tryz.prog SQG seatD10yE385 := EnFOK.of_fastD evMixed evNames seatD10yOrc_ok (tableL_self _) (tabE_ok (es := [seatD10yE437]) (allCons h437 allNil)) (n := 90) (fuel := 100000) (fun s t => rfl) (fun s t => by kernel_rfl)
theorem seatD10yE1443_ok  : EnFOK Tryz.prog SQG seatD10yE1443 := EnFOK.of_fastD evMixed evNames seatD10yOrc_ok (tableL_self _) (tabE_ok (es := []) allNil) (n := 90) (fuel := 100000) (fun s t => rfl) (fun s t => by kernel_rfl)
theorem seatD10yE1397_ok  : EnFOK Tryz.prog SQG seatD10yE1397 := EnFOK.of_fastD evMixed evNames seatD10yOrc_ok (tableL_self _) (tabE_ok (es := []) allNil) (n := 90) (fuel := 100000) (fun s t => rfl) (fun s t => by kernel_rfl)
theorem seatD10yE1862_ok  : EnFOK Tryz.prog SQG seatD10yE1862 := EnFOK.of_fastD evMixed evNames seatD10yOrc_ok (tableL_self _) (tabE_ok (es := []) allNil) (n := 90) (fuel := 100000) (fun s t => rfl) (fun s t => by kernel_rfl)
theorem seatD10yE1_ok (h4 : EnFOK Tryz.prog SQG seatD10yE4) : EnFOK Tryz.prog SQG seatD10yE1 := EnFOK.of_fastD evMixed evNames seatD10yOrc_ok (tableL_self _) (tabE_ok (es := [seatD10yE4]) (allCons h4 allNil)) (n := 90) (fuel := 100000) (fun s t => rfl) (fun s t => by kernel_rfl)
end Go.Proofs.YtllppcehncckfaaGreatDoor
