/- satrapy/satrapylaw18.SeatDone: in parts: the parts (1). -/
import Derived.Test.YtllppcehncckfaaGreatDoorSeatD9nD
import Derived.Test.YtllppcehncckfaaGreatDoorEwM9
import Derived.Test.YtllppcehncckfaaGreatDoorSortedAt2
import Derived.Test.YtllppcehncckfaaGreatDoorSeatKD
import Derived.ProofKit
namespace Go.Proofs.YtllppcehncckfaaGreatDoor
open Go.RowKit
set_option linter.unusedVariables false
set_option linter.unusedSimpArgs false
set_option maxRecDepth 100000

theorem seatD9nE1137_ok  : EnFOK Tryz.prog SQG seatD9nE1137 := EnFOK.of_fastD evMixed evNames seatD9nOrc_ok (tableL_self _) (tabE_ok (es := []) allNil) (n := 90) (fuel := 100000) (fun s t => rfl) (fun s t => by kernel_rfl)
theorem seatD9nE1473_ok (h1493 : EnFOK Tryz.prog SQG seatD9nE1493) : EnFOK Tryz.prog SQG seatD9nE1473 := EnFOK.of_fastD evMixed evNames seatD9nOrc_ok (tableL_self _) (tabE_ok (es := [seatD9nE1493]) (allCons h1493 allNil)) (n := 90) (fuel := 100000) (fun s t => rfl) (fun s t => by kernel_rfl)
theorem seatD9nE1095_ok (h1099 : EnFOK Tryz.prog SQG seatD9nE1099) (h1133 : EnFOK Tryz.prog SQG seatD9nE1133) (h1136 : EnFOK Tryz.prog SQG seatD9nE1136) (h1390 : EnFOK Tryz.prog SQG seatD9nE1390) (h1448 : EnFOK Tryz.prog SQG seatD9nE1448) (h1527 : EnFOK Tryz.prog SQG seatD9nE1527) : EnFOK Tryz.prog SQG seatD9nE1095 := EnFOK.of_fastD evMixed evNames seatD9nOrc_ok (tableL_self _) (tabE_ok (es := [seatD9nE1099, seatD9nE1133, seatD9nE1136, seatD9nE1390, seatD9nE1448, seatD9nE1527]) (allCons h1099 (allCons h1133 (allCons h1136 (allCons h1390 (allCons h1448 (allCons h1527 allNil))))))) (n := 90) (fuel := 100000) (fun s t => rfl) (fun s t => by kernel_rfl)
theorem seatD9nE698_ok  : EnFOK Tryz.prog SQG seatD9nE698 := EnFOK.of_fastD evMixed evNames seatD9nOrc_ok (tableL_self _) (tabE_ok (es := []) allNil) (n := 90) (fuel := 100000) (fun s t => rfl) (fun s t => by kernel_rfl)
theorem seatD9nE787_ok  : EnFOK Tryz.prog SQG seatD9nE787 := EnFOK.of_fastD evMixed evNames seatD9nOrc_ok (tableL_self _) (tabE_ok (es := []) allNil) (n := 90) (fuel := 100000) (fun s t => rfl) (fun s t => by kernel_rfl)
theorem seatD9nE165_ok  : EnFOK Tryz.prog SQG seatD9nE165 := EnFOK.of_fastD evMixed evNames seatD9nOrc_ok (tableL_self _) (tabE_ok (es := []) allNil) (n := 90) (fuel := 100000) (fun s t => rfl) (fun s t => by kernel_rfl)
theorem seatD9nE590_ok (h610 : EnFOK Tryz.prog SQG seatD9nE610) : EnFOK Tryz.prog SQG seatD9nE590 := EnFOK.of_fastD evMixed evNames seatD9nOrc_ok (tableL_self _) (tabE_ok (es := [seatD9nE610]) (allCons h610 allNil)) (n := 90) (fuel := 100000) (fun s t => rfl) (fun s t => by kernel_rfl)
theorem seatD9nE237_ok  : EnFOK Tryz.prog SQG seatD9nE237 := EnFOK.of_fastD evMixed evNames seatD9nOrc_ok (tableL_self _) (tabE_ok (es := []) allNil) (n := 90) (fuel := 100000) (fun s t => rfl) (fun s t => by kernel_rfl)
theorem seatD9nE941_ok  : EnFOK Tryz.prog SQG seatD9nE941 := EnFOK.of_fastD evMixed evNames seatD9nOrc_ok (tableL_self _) (tabE_ok (es := []) allNil) (n := 90) (fuel := 100000) (fun s t => rfl) (fun s t => by kernel_rfl)
theorem seatD9nE852_ok  : EnFOK Tryz.prog SQG seatD9nE852 := EnFOK.of_fastD evMixed evNames seatD9nOrc_ok (tableL_self _) (tabE_ok (es := []) allNil) (n := 90) (fuel := 100000) (fun s t => rfl) (fun s t => by kernel_rfl)
theorem seatD9nE381_ok (h382 : EnFOK Tryz.prog SQG seatD9nE382) (h555 : EnFOK Tryz.prog SQG seatD9nE555) : EnFOK Tryz.prog SQG seatD9nE381 := EnFOK.of_fastD evMixed evNames seatD9nOrc_ok (tableL_self _) (tabE_ok (es := [seatD9nE382, seatD9nE555]) (allCons h382 (allCons h555 allNil))) (n := 90) (fuel := 100000) (fun s t => rfl) (fun s t => by kernel_rfl)
theorem seatD9nE1099_ok  : EnFOK Tryz.prog SQG seatD9nE1099 := EnFOK.of_fastD evMixed evNames seatD9nOrc_ok (tableL_self _) (tabE_ok (es := []) allNil) (n := 90) (fuel := 100000) (fun s t => rfl) (fun s t => by kernel_rfl)
theorem seatD9nE1764_ok  : EnFOK Tryz.prog SQG seatD9nE1764 := EnFOK.of_fastD evMixed evNames seatD9nOrc_ok (tableL_self _) (tabE_ok (es := []) allNil) (n := 90) (fuel := 100000) (fun s t => rfl) (fun s t => by kernel_rfl)
theorem seatD9nE1598_ok  : EnFOK Tryz.prog SQG seatD9nE1598 := EnFOK.of_fastD evMixed evNames seatD9nOrc_ok (tableL_self _) (tabE_ok (es := []) allNil) (n := 90) (fuel := 100000) (fun s t => rfl) (fun s t => by kernel_rfl)
end Go.Proofs.YtllppcehncckfaaGreatDoor
