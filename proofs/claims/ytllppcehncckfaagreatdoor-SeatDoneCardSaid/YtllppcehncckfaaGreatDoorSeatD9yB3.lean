/- satrapy/satrapylaw18.SeatDone: in parts: the parts (3). -/
import Derived.Test.YtllppcehncckfaaGreatDoorSeatD9yD
import Derived.Test.YtllppcehncckfaaGreatDoorEwM9
import Derived.Test.YtllppcehncckfaaGreatDoorSortedAt2
import Derived.Test.YtllppcehncckfaaGreatDoorSeatKD
import Derived.ProofKit
namespace Go.Proofs.YtllppcehncckfaaGreatDoor
open Go.RowKit
set_option linter.unusedVariables false
set_option linter.unusedSimpArgs false
set_option maxRecDepth 100000

theorem seatD9yE1244_ok  : EnFOK Tryz.prog SQG seatD9yE1244 := EnFOK.of_fastD evMixed evNames seatD9yOrc_ok (tableL_self _) (tabE_ok (es := []) allNil) (n := 90) (fuel := 100000) (fun s t => rfl) (fun s t => by kernel_rfl)
theorem seatD9yE437_ok  : EnFOK Tryz.prog SQG seatD9yE437 := EnFOK.of_fastD evMixed evNames seatD9yOrc_ok (tableL_self _) (tabE_ok (es := []) allNil) (n := 90) (fuel := 100000) (fun s t => rfl) (fun s t => by kernel_rfl)
theorem seatD9yE739_ok  : EnFOK Tryz.prog SQG seatD9yE739 := EnFOK.of_fastD evMixed evNames seatD9yOrc_ok (tableL_self _) (tabE_ok (es := []) allNil) (n := 90) (fuel := 100000) (fun s t => rfl) (fun s t => by kernel_rfl)
theorem seatD9yE1448_ok (h1473 : EnFOK Tryz.prog SQG seatD9yE1473) : EnFOK Tryz.prog SQG seatD9yE1448 := EnFOK.of_fastD evMixed evNames seatD9yOrc_ok (tableL_self _) (tabE_ok (es := [seatD9yE1473]) (allCons h1473 allNil)) (n := 90) (fuel := 100000) (fun s t => rfl) (fun s t => by kernel_rfl)
theorem seatD9yE876_ok  : EnFOK Tryz.prog SQG seatD9yE876 := EnFOK.of_fastD evMixed evNames seatD9yOrc_ok (tableL_self _) (tabE_ok (es := []) allNil) (n := 90) (fuel := 100000) (fun s t => rfl) (fun s t => by kernel_rfl)
theorem seatD9yE32_ok  : EnFOK Tryz.prog SQG seatD9yE32 := EnFOK.of_fastD evMixed evNames seatD9yOrc_ok (tableL_self _) (tabE_ok (es := []) allNil) (n := 90) (fuel := 100000) (fun s t => rfl) (fun s t => by kernel_rfl)
theorem seatD9yE650_ok  : EnFOK Tryz.prog SQG seatD9yE650 := EnFOK.of_fastD evMixed evNames seatD9yOrc_ok (tableL_self _) (tabE_ok (es := []) allNil) (n := 90) (fuel := 100000) (fun s t => rfl) (fun s t => by kernel_rfl)
theorem seatD9yE237_ok  : EnFOK Tryz.prog SQG seatD9yE237 := EnFOK.of_fastD evMixed evNames seatD9yOrc_ok (tableL_self _) (tabE_ok (es := []) allNil) (n := 90) (fuel := 100000) (fun s t => rfl) (fun s t => by kernel_rfl)
theorem seatD9yE1006_ok  : EnFOK Tryz.prog SQG seatD9yE1006 := EnFOK.of_fastD evMixed evNames seatD9yOrc_ok (tableL_self _) (tabE_ok (es := []) allNil) (n := 90) (fuel := 100000) (fun s t => rfl) (fun s t => by kernel_rfl)
theorem seatD9yE763_ok  : EnFOK Tryz.prog SQG seatD9yE763 := EnFOK.of_fastD evMixed evNames seatD9yOrc_ok (tableL_self _) (tabE_ok (es := []) allNil) (n := 90) (fuel := 100000) (fun s t => rfl) (fun s t => by kernel_rfl)
theorem seatD9yE590_ok (h610 : EnFOK Tryz.prog SQG seatD9yE610) : EnFOK Tryz.prog SQG seatD9yE590 := EnFOK.of_fastD evMixed evNames seatD9yOrc_ok (tableL_self _) (tabE_ok (es := [seatD9yE610]) (allCons h610 allNil)) (n := 90) (fuel := 100000) (fun s t => rfl) (fun s t => by kernel_rfl)
theorem seatD9yE1714_ok  : EnFOK Tryz.prog SQG seatD9yE1714 := EnFOK.of_fastD evMixed evNames seatD9yOrc_ok (tableL_self _) (tabE_ok (es := []) allNil) (n := 90) (fuel := 100000) (fun s t => rfl) (fun s t => by kernel_rfl)
theorem seatD9yE1443_ok  : EnFOK Tryz.prog SQG seatD9yE1443 := EnFOK.of_fastD evMixed evNames seatD9yOrc_ok (tableL_self _) (tabE_ok (es := []) allNil) (n := 90) (fuel := 100000) (fun s t => rfl) (fun s t => by kernel_rfl)
theorem seatD9yE1862_ok  : EnFOK Tryz.prog SQG seatD9yE1862 := EnFOK.of_fastD evMixed evNames seatD9yOrc_ok (tableL_self _) (tabE_ok (es := []) allNil) (n := 90) (fuel := 100000) (fun s t => rfl) (fun s t => by kernel_rfl)
theorem seatD9yE610_ok  : EnFOK Tryz.prog SQG seatD9yE610 := EnFOK.of_fastD evMixed evNames seatD9yOrc_ok (tableL_self _) (tabE_ok (es := []) allNil) (n := 90) (fuel := 100000) (fun s t => rfl) (fun s t => by kernel_rfl)
end Go.Proofs.YtllppcehncckfaaGreatDoor
