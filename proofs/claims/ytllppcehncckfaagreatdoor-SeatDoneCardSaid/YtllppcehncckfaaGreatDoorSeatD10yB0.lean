/- satrapy/satrapylaw18.SeatDone: in parts: the parts (0). -/
import Derived.Test.YtllppcehncckfaaGreatDoorSeatD10yD
import Derived.Test.YtllppcehncckfaaGreatDoorEwM9
import Derived.Test.YtllppcehncckfaaGreatDoorSortedAt2
import Derived.Test.YtllppcehncckfaaGreatDoorSeatKD
import Derived.ProofKit
namespace Go.Proofs.YtllppcehncckfaaGreatDoor
open Go.RowKit
set_option linter.unusedVariables false
set_option linter.unusedSimpArgs false
set_option maxRecDepth 100000

theorem seatD10yE1137_ok  : EnFOK Tryz.prog SQG seatD10yE1137 := EnFOK.of_fastD evMixed evNames seatD10yOrc_ok (tableL_self _) (tabE_ok (es := []) allNil) (n := 90) (fuel := 100000) (fun s t => rfl) (fun s t => by kernel_rfl)
theorem seatD10yE1095_ok (h1099 : EnFOK Tryz.prog SQG seatD10yE1099) (h1133 : EnFOK Tryz.prog SQG seatD10yE1133) (h1137 : EnFOK Tryz.prog SQG seatD10yE1137) (h1207 : EnFOK Tryz.prog SQG seatD10yE1207) (h1344 : EnFOK Tryz.prog SQG seatD10yE1344) (h1390 : EnFOK Tryz.prog SQG seatD10yE1390) (h1448 : EnFOK Tryz.prog SQG seatD10yE1448) (h1527 : EnFOK Tryz.prog SQG seatD10yE1527) : EnFOK Tryz.prog SQG seatD10yE1095 := EnFOK.of_fastD evMixed evNames seatD10yOrc_ok (tableL_self _) (tabE_ok (es := [seatD10yE1099, seatD10yE1133, seatD10yE1137, seatD10yE1207, seatD10yE1344, seatD10yE1390, seatD10yE1448, seatD10yE1527]) (allCons h1099 (allCons h1133 (allCons h1137 (allCons h1207 (allCons h1344 (allCons h1390 (allCons h1448 (allCons h1527 allNil))))))))) (n := 90) (fuel := 100000) (fun s t => rfl) (fun s t => by kernel_rfl)
theorem seatD10yE2029_ok  : EnFOK Tryz.prog SQG seatD10yE2029 := EnFOK.of_fastD evMixed evNames seatD10yOrc_ok (tableL_self _) (tabE_ok (es := []) allNil) (n := 90) (fuel := 100000) (fun s t => rfl) (fun s t => by kernel_rfl)
theorem seatD10yE1054_ok  : EnFOK Tryz.prog SQG seatD10yE1054 := EnFOK.of_fastD evMixed evNames seatD10yOrc_ok (tableL_self _) (tabE_ok (es := []) allNil) (n := 90) (fuel := 100000) (fun s t => rfl) (fun s t => by kernel_rfl)
theorem seatD10yE1527_ok  : EnFOK Tryz.prog SQG seatD10yE1527 := EnFOK.of_fastD evMixed evNames seatD10yOrc_ok (tableL_self _) (tabE_ok (es := []) allNil) (n := 90) (fuel := 100000) (fun s t => rfl) (fun s t => by kernel_rfl)
theorem seatD10yE381_ok (h385 : EnFOK Tryz.prog SQG seatD10yE385) (h555 : EnFOK Tryz.prog SQG seatD10yE555) : EnFOK Tryz.prog SQG seatD10yE381 := EnFOK.of_fastD evMixed evNames seatD10yOrc_ok (tableL_self _) (tabE_ok (es := [seatD10yE385, seatD10yE555]) (allCons h385 (allCons h555 allNil))) (n := 90) (fuel := 100000) (fun s t => rfl) (fun s t => by kernel_rfl)
theorem seatD10yE852_ok  : EnFOK Tryz.prog SQG seatD10yE852 := EnFOK.of_fastD evMixed evNames seatD10yOrc_ok (tableL_self _) (tabE_ok (es := []) allNil) (n := 90) (fuel := 100000) (fun s t => rfl) (fun s t => by kernel_rfl)
theorem seatD10yE261_ok  : EnFOK Tryz.prog SQG seatD10yE261 := EnFOK.of_fastD evMixed evNames seatD10yOrc_ok (tableL_self _) (tabE_ok (es := []) allNil) (n := 90) (fuel := 100000) (fun s t => rfl) (fun s t => by kernel_rfl)
theorem seatD10yE213_ok  : EnFOK Tryz.prog SQG seatD10yE213 := EnFOK.of_fastD evMixed evNames seatD10yOrc_ok (tableL_self _) (tabE_ok (es := []) allNil) (n := 90) (fuel := 100000) (fun s t => rfl) (fun s t => by kernel_rfl)
theorem seatD10yE357_ok  : EnFOK Tryz.prog SQG seatD10yE357 := EnFOK.of_fastD evMixed evNames seatD10yOrc_ok (tableL_self _) (tabE_ok (es := []) allNil) (n := 90) (fuel := 100000) (fun s t => rfl) (fun s t => by kernel_rfl)
theorem seatD10yE1344_ok  : EnFOK Tryz.prog SQG seatD10yE1344 := EnFOK.of_fastD evMixed evNames seatD10yOrc_ok (tableL_self _) (tabE_ok (es := []) allNil) (n := 90) (fuel := 100000) (fun s t => rfl) (fun s t => by kernel_rfl)
theorem seatD10yE138_ok  : EnFOK Tryz.prog SQG seatD10yE138 := EnFOK.of_fastD evMixed evNames seatD10yOrc_ok (tableL_self _) (tabE_ok (es := []) allNil) (n := 90) (fuel := 100000) (fun s t => rfl) (fun s t => by kernel_rfl)
theorem seatD10yE1564_ok  : EnFOK Tryz.prog SQG seatD10yE1564 := EnFOK.of_fastD evMixed evNames seatD10yOrc_ok (tableL_self _) (tabE_ok (es := []) allNil) (n := 90) (fuel := 100000) (fun s t => rfl) (fun s t => by kernel_rfl)
theorem seatD10yE1908_ok  : EnFOK Tryz.prog SQG seatD10yE1908 := EnFOK.of_fastD evMixed evNames seatD10yOrc_ok (tableL_self _) (tabE_ok (es := []) allNil) (n := 90) (fuel := 100000) (fun s t => rfl) (fun s t => by kernel_rfl)
theorem seatD10yE610_ok  : EnFOK Tryz.prog SQG seatD10yE610 := EnFOK.of_fastD evMixed evNames seatD10yOrc_ok (tableL_self _) (tabE_ok (es := []) allNil) (n := 90) (fuel := 100000) (fun s t => rfl) (fun s t => by kernel_rfl)
theorem seatD10yE2023_ok  : EnFOK Tryz.prog SQG seatD10yE2023 := EnFOK.of_fastD evMixed evNames seatD10yOrc_ok (tableL_self _) (tabE_ok (es := []) allNil) (n := 90) (fuel := 100000) (fun s t => rfl) (fun s t => by kernel_rfl)
end Go.Proofs.YtllppcehncckfaaGreatDoor
