/- satrapy/satrapylaw18.SeatDone: in parts: the parts (2). -/
import Derived.Test.YtllppcehncckfaaGreatDoorSeatD9nD
import Derived.Test.YtllppcehncckfaaGreatDoorEwM9
import Derived.Test.YtllppcehncckfaaGreatDoorSortedAt2
import Derived.Test.YtllppcehncckfaaGreatDoorSeatKD
import Derived.ProofKit
namespace Go.Proofs.YtllppcehncckfaaGreatDoor
open Go.RowKit
set_option linter.unusedVariables false
set_option linter.unusedSimpArgs false
set_option maxRecDepth 100000

theorem seatD9nE437_ok  : EnFOK Tryz.prog SQG seatD9nE437 := EnFOK.of_fastD evMixed evNames seatD9nOrc_ok (tableL_self _) (tabE_ok (es := []) allNil) (n := 90) (fuel := 100000) (fun s t => rfl) (fun s t => by kernel_rfl)
theorem seatD9nE1136_ok (h1137 : EnFOK Tryz.prog SQG seatD9nE1137) (h1244 : EnFOK Tryz.prog SQG seatD9nE1244) : EnFOK Tryz.prog SQG seatD9nE1136 := EnFOK.of_fastD evMixed evNames seatD9nOrc_ok (tableL_self _) (tabE_ok (es := [seatD9nE1137, seatD9nE1244]) (allCons h1137 (allCons h1244 allNil))) (n := 90) (fuel := 100000) (fun s t => rfl) (fun s t => by kernel_rfl)
theorem seatD9nE1390_ok (h1397 : EnFOK Tryz.prog SQG seatD9nE1397) (h1443 : EnFOK Tryz.prog SQG seatD9nE1443) : EnFOK Tryz.prog SQG seatD9nE1390 := EnFOK.of_fastD evMixed evNames seatD9nOrc_ok (tableL_self _) (tabE_ok (es := [seatD9nE1397, seatD9nE1443]) (allCons h1397 (allCons h1443 allNil))) (n := 90) (fuel := 100000) (fun s t => rfl) (fun s t => by kernel_rfl)
theorem seatD9nE1448_ok (h1473 : EnFOK Tryz.prog SQG seatD9nE1473) : EnFOK Tryz.prog SQG seatD9nE1448 := EnFOK.of_fastD evMixed evNames seatD9nOrc_ok (tableL_self _) (tabE_ok (es := [seatD9nE1473]) (allCons h1473 allNil)) (n := 90) (fuel := 100000) (fun s t => rfl) (fun s t => by kernel_rfl)
theorem seatD9nE965_ok  : EnFOK Tryz.prog SQG seatD9nE965 := EnFOK.of_fastD evMixed evNames seatD9nOrc_ok (tableL_self _) (tabE_ok (es := []) allNil) (n := 90) (fuel := 100000) (fun s t => rfl) (fun s t => by kernel_rfl)
theorem seatD9nE32_ok  : EnFOK Tryz.prog SQG seatD9nE32 := EnFOK.of_fastD evMixed evNames seatD9nOrc_ok (tableL_self _) (tabE_ok (es := []) allNil) (n := 90) (fuel := 100000) (fun s t => rfl) (fun s t => by kernel_rfl)
theorem seatD9nE650_ok  : EnFOK Tryz.prog SQG seatD9nE650 := EnFOK.of_fastD evMixed evNames seatD9nOrc_ok (tableL_self _) (tabE_ok (es := []) allNil) (n := 90) (fuel := 100000) (fun s t => rfl) (fun s t => by kernel_rfl)
theorem seatD9nE1006_ok  : EnFOK Tryz.prog SQG seatD9nE1006 := EnFOK.of_fastD evMixed evNames seatD9nOrc_ok (tableL_self _) (tabE_ok (es := []) allNil) (n := 90) (fuel := 100000) (fun s t => rfl) (fun s t => by kernel_rfl)
theorem seatD9nE1030_ok  : EnFOK Tryz.prog SQG seatD9nE1030 := EnFOK.of_fastD evMixed evNames seatD9nOrc_ok (tableL_self _) (tabE_ok (es := []) allNil) (n := 90) (fuel := 100000) (fun s t => rfl) (fun s t => by kernel_rfl)
theorem seatD9nE828_ok  : EnFOK Tryz.prog SQG seatD9nE828 := EnFOK.of_fastD evMixed evNames seatD9nOrc_ok (tableL_self _) (tabE_ok (es := []) allNil) (n := 90) (fuel := 100000) (fun s t => rfl) (fun s t => by kernel_rfl)
theorem seatD9nE674_ok  : EnFOK Tryz.prog SQG seatD9nE674 := EnFOK.of_fastD evMixed evNames seatD9nOrc_ok (tableL_self _) (tabE_ok (es := []) allNil) (n := 90) (fuel := 100000) (fun s t => rfl) (fun s t => by kernel_rfl)
theorem seatD9nE1564_ok  : EnFOK Tryz.prog SQG seatD9nE1564 := EnFOK.of_fastD evMixed evNames seatD9nOrc_ok (tableL_self _) (tabE_ok (es := []) allNil) (n := 90) (fuel := 100000) (fun s t => rfl) (fun s t => by kernel_rfl)
theorem seatD9nE1718_ok  : EnFOK Tryz.prog SQG seatD9nE1718 := EnFOK.of_fastD evMixed evNames seatD9nOrc_ok (tableL_self _) (tabE_ok (es := []) allNil) (n := 90) (fuel := 100000) (fun s t => rfl) (fun s t => by kernel_rfl)
theorem seatD9nE125_ok  : EnFOK Tryz.prog SQG seatD9nE125 := EnFOK.of_fastD evMixed evNames seatD9nOrc_ok (tableL_self _) (tabE_ok (es := []) allNil) (n := 90) (fuel := 100000) (fun s t => rfl) (fun s t => by kernel_rfl)
theorem seatD9nE570_ok  : EnFOK Tryz.prog SQG seatD9nE570 := EnFOK.of_fastD evMixed evNames seatD9nOrc_ok (tableL_self _) (tabE_ok (es := []) allNil) (n := 90) (fuel := 100000) (fun s t => rfl) (fun s t => by kernel_rfl)
end Go.Proofs.YtllppcehncckfaaGreatDoor
