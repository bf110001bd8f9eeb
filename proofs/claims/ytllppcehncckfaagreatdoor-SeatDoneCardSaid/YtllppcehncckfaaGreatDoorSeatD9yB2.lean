/- satrapy/satrapylaw18.SeatDone: in parts: the parts (2). -/
import Derived.Test.YtllppcehncckfaaGreatDoorSeatD9yD
import Derived.Test.YtllppcehncckfaaGreatDoorEwM9
import Derived.Test.YtllppcehncckfaaGreatDoorSortedAt2
import Derived.Test.YtllppcehncckfaaGreatDoorSeatKD
import Derived.ProofKit
namespace Go.Proofs.YtllppcehncckfaaGreatDoor
open Go.RowKit
set_option linter.unusedVariables false
set_option linter.unusedSimpArgs false
set_option maxRecDepth 100000

theorem seatD9yE555_ok (h590 : EnFOK Tryz.prog SQG seatD9yE590) : EnFOK Tryz.prog SQG seatD9yE555 := EnFOK.of_fastD evMixed evNames seatD9yOrc_ok (tableL_self _) (tabE_ok (es := [seatD9yE590]) (allCons h590 allNil)) (n := 90) (fuel := 100000) (fun s t => rfl) (fun s t => by kernel_rfl)
theorem seatD9yE1938_ok (h1958 : EnFOK Tryz.prog SQG seatD9yE1958) : EnFOK Tryz.prog SQG seatD9yE1938 := EnFOK.of_fastD evMixed evNames seatD9yOrc_ok (tableL_self _) (tabE_ok (es := [seatD9yE1958]) (allCons h1958 allNil)) (n := 90) (fuel := 100000) (fun s t => rfl) (fun s t => by kernel_rfl)
theorem seatD9yE111_ok (h125 : EnFOK Tryz.prog SQG seatD9yE125) : EnFOK Tryz.prog SQG seatD9yE111 := EnFOK.of_fastD evMixed evNames seatD9yOrc_ok (tableL_self _) (tabE_ok (es := [seatD9yE125]) (allCons h125 allNil)) (n := 90) (fuel := 100000) (fun s t => rfl) (fun s t => by kernel_rfl)
theorem seatD9yE1095_ok (h1099 : EnFOK Tryz.prog SQG seatD9yE1099) (h1133 : EnFOK Tryz.prog SQG seatD9yE1133) (h1136 : EnFOK Tryz.prog SQG seatD9yE1136) (h1390 : EnFOK Tryz.prog SQG seatD9yE1390) (h1448 : EnFOK Tryz.prog SQG seatD9yE1448) (h1527 : EnFOK Tryz.prog SQG seatD9yE1527) : EnFOK Tryz.prog SQG seatD9yE1095 := EnFOK.of_fastD evMixed evNames seatD9yOrc_ok (tableL_self _) (tabE_ok (es := [seatD9yE1099, seatD9yE1133, seatD9yE1136, seatD9yE1390, seatD9yE1448, seatD9yE1527]) (allCons h1099 (allCons h1133 (allCons h1136 (allCons h1390 (allCons h1448 (allCons h1527 allNil))))))) (n := 90) (fuel := 100000) (fun s t => rfl) (fun s t => by kernel_rfl)
theorem seatD9yE1054_ok  : EnFOK Tryz.prog SQG seatD9yE1054 := EnFOK.of_fastD evMixed evNames seatD9yOrc_ok (tableL_self _) (tabE_ok (es := []) allNil) (n := 90) (fuel := 100000) (fun s t => rfl) (fun s t => by kernel_rfl)
theorem seatD9yE1527_ok  : EnFOK Tryz.prog SQG seatD9yE1527 := EnFOK.of_fastD evMixed evNames seatD9yOrc_ok (tableL_self _) (tabE_ok (es := []) allNil) (n := 90) (fuel := 100000) (fun s t => rfl) (fun s t => by kernel_rfl)
theorem seatD9yE165_ok  : EnFOK Tryz.prog SQG seatD9yE165 := EnFOK.of_fastD evMixed evNames seatD9yOrc_ok (tableL_self _) (tabE_ok (es := []) allNil) (n := 90) (fuel := 100000) (fun s t => rfl) (fun s t => by kernel_rfl)
theorem seatD9yE1030_ok  : EnFOK Tryz.prog SQG seatD9yE1030 := EnFOK.of_fastD evMixed evNames seatD9yOrc_ok (tableL_self _) (tabE_ok (es := []) allNil) (n := 90) (fuel := 100000) (fun s t => rfl) (fun s t => by kernel_rfl)
theorem seatD9yE917_ok  : EnFOK Tryz.prog SQG seatD9yE917 := EnFOK.of_fastD evMixed evNames seatD9yOrc_ok (tableL_self _) (tabE_ok (es := []) allNil) (n := 90) (fuel := 100000) (fun s t => rfl) (fun s t => by kernel_rfl)
theorem seatD9yE261_ok  : EnFOK Tryz.prog SQG seatD9yE261 := EnFOK.of_fastD evMixed evNames seatD9yOrc_ok (tableL_self _) (tabE_ok (es := []) allNil) (n := 90) (fuel := 100000) (fun s t => rfl) (fun s t => by kernel_rfl)
theorem seatD9yE285_ok  : EnFOK Tryz.prog SQG seatD9yE285 := EnFOK.of_fastD evMixed evNames seatD9yOrc_ok (tableL_self _) (tabE_ok (es := []) allNil) (n := 90) (fuel := 100000) (fun s t => rfl) (fun s t => by kernel_rfl)
theorem seatD9yE383_ok (h437 : EnFOK Tryz.prog SQG seatD9yE437) : EnFOK Tryz.prog SQG seatD9yE383 := EnFOK.of_fastD evMixed evNames seatD9yOrc_ok (tableL_self _) (tabE_ok (es := [seatD9yE437]) (allCons h437 allNil)) (n := 90) (fuel := 100000) (fun s t => rfl) (fun s t => by kernel_rfl)
theorem seatD9yE1564_ok  : EnFOK Tryz.prog SQG seatD9yE1564 := EnFOK.of_fastD evMixed evNames seatD9yOrc_ok (tableL_self _) (tabE_ok (es := []) allNil) (n := 90) (fuel := 100000) (fun s t => rfl) (fun s t => by kernel_rfl)
theorem seatD9yE1133_ok  : EnFOK Tryz.prog SQG seatD9yE1133 := EnFOK.of_fastD evMixed evNames seatD9yOrc_ok (tableL_self _) (tabE_ok (es := []) allNil) (n := 90) (fuel := 100000) (fun s t => rfl) (fun s t => by kernel_rfl)
theorem seatD9yE2023_ok  : EnFOK Tryz.prog SQG seatD9yE2023 := EnFOK.of_fastD evMixed evNames seatD9yOrc_ok (tableL_self _) (tabE_ok (es := []) allNil) (n := 90) (fuel := 100000) (fun s t => rfl) (fun s t => by kernel_rfl)
end Go.Proofs.YtllppcehncckfaaGreatDoor
