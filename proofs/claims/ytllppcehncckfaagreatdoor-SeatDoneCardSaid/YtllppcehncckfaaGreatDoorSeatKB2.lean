/- satrapy/satrapylaw18.known: in parts: the parts (2). -/
import Derived.Test.YtllppcehncckfaaGreatDoorSeatKD
import Derived.Test.YtllppcehncckfaaGreatDoorEwM9
import Derived.Test.YtllppcehncckfaaGreatDoorSortedAt2
import Derived.ProofKit
namespace Go.Proofs.YtllppcehncckfaaGreatDoor
open Go.RowKit
set_option linter.unusedVariables false
set_option linter.unusedSimpArgs false
set_option maxRecDepth 100000

theorem seatKE437_ok  : EnFOK Tryz.prog SQG seatKE437 := EnFOK.of_fastD evMixed evNames seatKOrc_ok (tableL_self _) (tabE_ok (es := []) allNil) (n := 90) (fuel := 100000) (fun s t => rfl) (fun s t => by kernel_rfl)
theorem seatKE111_ok (h125 : EnFOK Tryz.prog SQG seatKE125) : EnFOK Tryz.prog SQG seatKE111 := EnFOK.of_fastD evMixed evNames seatKOrc_ok (tableL_self _) (tabE_ok (es := [seatKE125]) (allCons h125 allNil)) (n := 90) (fuel := 100000) (fun s t => rfl) (fun s t => by kernel_rfl)
theorem seatKE1164_ok  : EnFOK Tryz.prog SQG seatKE1164 := EnFOK.of_fastD evMixed evNames seatKOrc_ok (tableL_self _) (tabE_ok (es := []) allNil) (n := 90) (fuel := 100000) (fun s t => rfl) (fun s t => by kernel_rfl)
theorem seatKE32_ok  : EnFOK Tryz.prog SQG seatKE32 := EnFOK.of_fastD evMixed evNames seatKOrc_ok (tableL_self _) (tabE_ok (es := []) allNil) (n := 90) (fuel := 100000) (fun s t => rfl) (fun s t => by kernel_rfl)
theorem seatKE189_ok  : EnFOK Tryz.prog SQG seatKE189 := EnFOK.of_fastD evMixed evNames seatKOrc_ok (tableL_self _) (tabE_ok (es := []) allNil) (n := 90) (fuel := 100000) (fun s t => rfl) (fun s t => by kernel_rfl)
theorem seatKE333_ok  : EnFOK Tryz.prog SQG seatKE333 := EnFOK.of_fastD evMixed evNames seatKOrc_ok (tableL_self _) (tabE_ok (es := []) allNil) (n := 90) (fuel := 100000) (fun s t => rfl) (fun s t => by kernel_rfl)
theorem seatKE213_ok  : EnFOK Tryz.prog SQG seatKE213 := EnFOK.of_fastD evMixed evNames seatKOrc_ok (tableL_self _) (tabE_ok (es := []) allNil) (n := 90) (fuel := 100000) (fun s t => rfl) (fun s t => by kernel_rfl)
theorem seatKE1088_ok  : EnFOK Tryz.prog SQG seatKE1088 := EnFOK.of_fastD evMixed evNames seatKOrc_ok (tableL_self _) (tabE_ok (es := []) allNil) (n := 90) (fuel := 100000) (fun s t => rfl) (fun s t => by kernel_rfl)
end Go.Proofs.YtllppcehncckfaaGreatDoor
