/- satrapy/satrapylaw18.known: in parts: the parts (3). -/
import Derived.Test.YtllppcehncckfaaGreatDoorSeatKD
import Derived.Test.YtllppcehncckfaaGreatDoorEwM9
import Derived.Test.YtllppcehncckfaaGreatDoorSortedAt2
import Derived.ProofKit
namespace Go.Proofs.YtllppcehncckfaaGreatDoor
open Go.RowKit
set_option linter.unusedVariables false
set_option linter.unusedSimpArgs false
set_option maxRecDepth 100000

theorem seatKE827_ok  : EnFOK Tryz.prog SQG seatKE827 := EnFOK.of_fastD evMixed evNames seatKOrc_ok (tableL_self _) (tabE_ok (es := []) allNil) (n := 90) (fuel := 100000) (fun s t => rfl) (fun s t => by kernel_rfl)
theorem seatKE1068_ok (h1088 : EnFOK Tryz.prog SQG seatKE1088) : EnFOK Tryz.prog SQG seatKE1068 := EnFOK.of_fastD evMixed evNames seatKOrc_ok (tableL_self _) (tabE_ok (es := [seatKE1088]) (allCons h1088 allNil)) (n := 90) (fuel := 100000) (fun s t => rfl) (fun s t => by kernel_rfl)
theorem seatKE1122_ok  : EnFOK Tryz.prog SQG seatKE1122 := EnFOK.of_fastD evMixed evNames seatKOrc_ok (tableL_self _) (tabE_ok (es := []) allNil) (n := 90) (fuel := 100000) (fun s t => rfl) (fun s t => by kernel_rfl)
theorem seatKE97_ok (h111 : EnFOK Tryz.prog SQG seatKE111) : EnFOK Tryz.prog SQG seatKE97 := EnFOK.of_fastD evMixed evNames seatKOrc_ok (tableL_self _) (tabE_ok (es := [seatKE111]) (allCons h111 allNil)) (n := 90) (fuel := 100000) (fun s t => rfl) (fun s t => by kernel_rfl)
theorem seatKE309_ok  : EnFOK Tryz.prog SQG seatKE309 := EnFOK.of_fastD evMixed evNames seatKOrc_ok (tableL_self _) (tabE_ok (es := []) allNil) (n := 90) (fuel := 100000) (fun s t => rfl) (fun s t => by kernel_rfl)
theorem seatKE357_ok  : EnFOK Tryz.prog SQG seatKE357 := EnFOK.of_fastD evMixed evNames seatKOrc_ok (tableL_self _) (tabE_ok (es := []) allNil) (n := 90) (fuel := 100000) (fun s t => rfl) (fun s t => by kernel_rfl)
theorem seatKE679_ok  : EnFOK Tryz.prog SQG seatKE679 := EnFOK.of_fastD evMixed evNames seatKOrc_ok (tableL_self _) (tabE_ok (es := []) allNil) (n := 90) (fuel := 100000) (fun s t => rfl) (fun s t => by kernel_rfl)
theorem seatKE715_ok  : EnFOK Tryz.prog SQG seatKE715 := EnFOK.of_fastD evMixed evNames seatKOrc_ok (tableL_self _) (tabE_ok (es := []) allNil) (n := 90) (fuel := 100000) (fun s t => rfl) (fun s t => by kernel_rfl)
theorem seatKE125_ok  : EnFOK Tryz.prog SQG seatKE125 := EnFOK.of_fastD evMixed evNames seatKOrc_ok (tableL_self _) (tabE_ok (es := []) allNil) (n := 90) (fuel := 100000) (fun s t => rfl) (fun s t => by kernel_rfl)
end Go.Proofs.YtllppcehncckfaaGreatDoor
