/- satrapy/satrapylaw18.SeatDone: in parts: the parts (3). -/
import Derived.Test.YtllppcehncckfaaGreatDoorSeatD10nD
import Derived.Test.YtllppcehncckfaaGreatDoorEwM9
import Derived.Test.YtllppcehncckfaaGreatDoorSortedAt2
import Derived.Test.YtllppcehncckfaaGreatDoorSeatKD
import Derived.ProofKit
namespace Go.Proofs.YtllppcehncckfaaGreatDoor
open Go.RowKit
set_option linter.unusedVariables false
set_option linter.unusedSimpArgs false
set_option maxRecDepth 100000

theorem seatD10nE437_ok  : EnFOK Tryz.prog SQG seatD10nE437 := EnFOK.of_fastD evMixed evNames seatD10nOrc_ok (tableL_self _) (tabE_ok (es := []) allNil) (n := 90) (fuel := 100000) (fun s t => rfl) (fun s t => by kernel_rfl)
theorem seatD10nE1473_ok (h1493 : EnFOK Tryz.prog SQG seatD10nE1493) : EnFOK Tryz.prog SQG seatD10nE1473 := EnFOK.of_fastD evMixed evNames seatD10nOrc_ok (tableL_self _) (tabE_ok (es := [seatD10nE1493]) (allCons h1493 allNil)) (n := 90) (fuel := 100000) (fun s t => rfl) (fun s t => by kernel_rfl)
theorem seatD10nE1390_ok (h1397 : EnFOK Tryz.prog SQG seatD10nE1397) (h1443 : EnFOK Tryz.prog SQG seatD10nE1443) : EnFOK Tryz.prog SQG seatD10nE1390 := EnFOK.of_fastD evMixed evNames seatD10nOrc_ok (tableL_self _) (tabE_ok (es := [seatD10nE1397, seatD10nE1443]) (allCons h1397 (allCons h1443 allNil))) (n := 90) (fuel := 100000) (fun s t => rfl) (fun s t => by kernel_rfl)
theorem seatD10nE1054_ok  : EnFOK Tryz.prog SQG seatD10nE1054 := EnFOK.of_fastD evMixed evNames seatD10nOrc_ok (tableL_self _) (tabE_ok (es := []) allNil) (n := 90) (fuel := 100000) (fun s t => rfl) (fun s t => by kernel_rfl)
theorem seatD10nE787_ok  : EnFOK Tryz.prog SQG seatD10nE787 := EnFOK.of_fastD evMixed evNames seatD10nOrc_ok (tableL_self _) (tabE_ok (es := []) allNil) (n := 90) (fuel := 100000) (fun s t => rfl) (fun s t => by kernel_rfl)
theorem seatD10nE97_ok (h111 : EnFOK Tryz.prog SQG seatD10nE111) : EnFOK Tryz.prog SQG seatD10nE97 := EnFOK.of_fastD evMixed evNames seatD10nOrc_ok (tableL_self _) (tabE_ok (es := [seatD10nE111]) (allCons h111 allNil)) (n := 90) (fuel := 100000) (fun s t => rfl) (fun s t => by kernel_rfl)
theorem seatD10nE763_ok  : EnFOK Tryz.prog SQG seatD10nE763 := EnFOK.of_fastD evMixed evNames seatD10nOrc_ok (tableL_self _) (tabE_ok (es := []) allNil) (n := 90) (fuel := 100000) (fun s t => rfl) (fun s t => by kernel_rfl)
theorem seatD10nE285_ok  : EnFOK Tryz.prog SQG seatD10nE285 := EnFOK.of_fastD evMixed evNames seatD10nOrc_ok (tableL_self _) (tabE_ok (es := []) allNil) (n := 90) (fuel := 100000) (fun s t => rfl) (fun s t => by kernel_rfl)
theorem seatD10nE650_ok  : EnFOK Tryz.prog SQG seatD10nE650 := EnFOK.of_fastD evMixed evNames seatD10nOrc_ok (tableL_self _) (tabE_ok (es := []) allNil) (n := 90) (fuel := 100000) (fun s t => rfl) (fun s t => by kernel_rfl)
theorem seatD10nE828_ok  : EnFOK Tryz.prog SQG seatD10nE828 := EnFOK.of_fastD evMixed evNames seatD10nOrc_ok (tableL_self _) (tabE_ok (es := []) allNil) (n := 90) (fuel := 100000) (fun s t => rfl) (fun s t => by kernel_rfl)
theorem seatD10nE333_ok  : EnFOK Tryz.prog SQG seatD10nE333 := EnFOK.of_fastD evMixed evNames seatD10nOrc_ok (tableL_self _) (tabE_ok (es := []) allNil) (n := 90) (fuel := 100000) (fun s t => rfl) (fun s t => by kernel_rfl)
theorem seatD10nE381_ok (h382 : EnFOK Tryz.prog SQG seatD10nE382) (h555 : EnFOK Tryz.prog SQG seatD10nE555) : EnFOK Tryz.prog SQG seatD10nE381 := EnFOK.of_fastD evMixed evNames seatD10nOrc_ok (tableL_self _) (tabE_ok (es := [seatD10nE382, seatD10nE555]) (allCons h382 (allCons h555 allNil))) (n := 90) (fuel := 100000) (fun s t => rfl) (fun s t => by kernel_rfl)
theorem seatD10nE1718_ok  : EnFOK Tryz.prog SQG seatD10nE1718 := EnFOK.of_fastD evMixed evNames seatD10nOrc_ok (tableL_self _) (tabE_ok (es := []) allNil) (n := 90) (fuel := 100000) (fun s t => rfl) (fun s t => by kernel_rfl)
theorem seatD10nE1598_ok  : EnFOK Tryz.prog SQG seatD10nE1598 := EnFOK.of_fastD evMixed evNames seatD10nOrc_ok (tableL_self _) (tabE_ok (es := []) allNil) (n := 90) (fuel := 100000) (fun s t => rfl) (fun s t => by kernel_rfl)
end Go.Proofs.YtllppcehncckfaaGreatDoor
