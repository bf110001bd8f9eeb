/- satrapy/satrapylaw18.SeatDone: in parts: the parts (1). -/
import Derived.Test.YtllppcehncckfaaGreatDoorSeatD9yD
import Derived.Test.YtllppcehncckfaaGreatDoorEwM9
import Derived.Test.YtllppcehncckfaaGreatDoorSortedAt2
import Derived.Test.YtllppcehncckfaaGreatDoorSeatKD
import Derived.ProofKit
namespace Go.Proofs.YtllppcehncckfaaGreatDoor
open Go.RowKit
set_option linter.unusedVariables false
set_option linter.unusedSimpArgs false
set_option maxRecDepth 100000

theorem seatD9yE1137_ok  : EnFOK Tryz.prog SQG seatD9yE1137 := EnFOK.of_fastD evMixed evNames seatD9yOrc_ok (tableL_self _) (tabE_ok (es := []) allNil) (n := 90) (fuel := 100000) (fun s t => rfl) (fun s t => by kernel_rfl)
theorem seatD9yE1473_ok (h1493 : EnFOK Tryz.prog SQG seatD9yE1493) : EnFOK Tryz.prog SQG seatD9yE1473 := EnFOK.of_fastD evMixed evNames seatD9yOrc_ok (tableL_self _) (tabE_ok (es := [seatD9yE1493]) (allCons h1493 allNil)) (n := 90) (fuel := 100000) (fun s t => rfl) (fun s t => by kernel_rfl)
theorem seatD9yE2029_ok  : EnFOK Tryz.prog SQG seatD9yE2029 := EnFOK.of_fastD evMixed evNames seatD9yOrc_ok (tableL_self _) (tabE_ok (es := []) allNil) (n := 90) (fuel := 100000) (fun s t => rfl) (fun s t => by kernel_rfl)
theorem seatD9yE1992_ok  : EnFOK Tryz.prog SQG seatD9yE1992 := EnFOK.of_fastD evMixed evNames seatD9yOrc_ok (tableL_self _) (tabE_ok (es := []) allNil) (n := 90) (fuel := 100000) (fun s t => rfl) (fun s t => by kernel_rfl)
theorem seatD9yE965_ok  : EnFOK Tryz.prog SQG seatD9yE965 := EnFOK.of_fastD evMixed evNames seatD9yOrc_ok (tableL_self _) (tabE_ok (es := []) allNil) (n := 90) (fuel := 100000) (fun s t => rfl) (fun s t => by kernel_rfl)
theorem seatD9yE381_ok (h383 : EnFOK Tryz.prog SQG seatD9yE383) (h555 : EnFOK Tryz.prog SQG seatD9yE555) : EnFOK Tryz.prog SQG seatD9yE381 := EnFOK.of_fastD evMixed evNames seatD9yOrc_ok (tableL_self _) (tabE_ok (es := [seatD9yE383, seatD9yE555]) (allCons h383 (allCons h555 allNil))) (n := 90) (fuel := 100000) (fun s t => rfl) (fun s t => by kernel_rfl)
theorem seatD9yE97_ok (h111 : EnFOK Tryz.prog SQG seatD9yE111) : EnFOK Tryz.prog SQG seatD9yE97 := EnFOK.of_fastD evMixed evNames seatD9yOrc_ok (tableL_self _) (tabE_ok (es := [seatD9yE111]) (allCons h111 allNil)) (n := 90) (fuel := 100000) (fun s t => rfl) (fun s t => by kernel_rfl)
theorem seatD9yE828_ok  : EnFOK Tryz.prog SQG seatD9yE828 := EnFOK.of_fastD evMixed evNames seatD9yOrc_ok (tableL_self _) (tabE_ok (es := []) allNil) (n := 90) (fuel := 100000) (fun s t => rfl) (fun s t => by kernel_rfl)
theorem seatD9yE189_ok  : EnFOK Tryz.prog SQG seatD9yE189 := EnFOK.of_fastD evMixed evNames seatD9yOrc_ok (tableL_self _) (tabE_ok (es := []) allNil) (n := 90) (fuel := 100000) (fun s t => rfl) (fun s t => by kernel_rfl)
theorem seatD9yE941_ok  : EnFOK Tryz.prog SQG seatD9yE941 := EnFOK.of_fastD evMixed evNames seatD9yOrc_ok (tableL_self _) (tabE_ok (es := []) allNil) (n := 90) (fuel := 100000) (fun s t => rfl) (fun s t => by kernel_rfl)
theorem seatD9yE333_ok  : EnFOK Tryz.prog SQG seatD9yE333 := EnFOK.of_fastD evMixed evNames seatD9yOrc_ok (tableL_self _) (tabE_ok (es := []) allNil) (n := 90) (fuel := 100000) (fun s t => rfl) (fun s t => by kernel_rfl)
theorem seatD9yE1_ok (h32 : EnFOK Tryz.prog SQG seatD9yE32) (h97 : EnFOK Tryz.prog SQG seatD9yE97) : EnFOK Tryz.prog SQG seatD9yE1 := EnFOK.of_fastD evMixed evNames seatD9yOrc_ok (tableL_self _) (tabE_ok (es := [seatD9yE32, seatD9yE97]) (allCons h32 (allCons h97 allNil))) (n := 90) (fuel := 100000) (fun s t => rfl) (fun s t => by kernel_rfl)
theorem seatD9yE1908_ok  : EnFOK Tryz.prog SQG seatD9yE1908 := EnFOK.of_fastD evMixed evNames seatD9yOrc_ok (tableL_self _) (tabE_ok (es := []) allNil) (n := 90) (fuel := 100000) (fun s t => rfl) (fun s t => by kernel_rfl)
theorem seatD9yE1598_ok  : EnFOK Tryz.prog SQG seatD9yE1598 := EnFOK.of_fastD evMixed evNames seatD9yOrc_ok (tableL_self _) (tabE_ok (es := []) allNil) (n := 90) (fuel := 100000) (fun s t => rfl) (fun s t => by kernel_rfl)
theorem seatD9yE125_ok  : EnFOK Tryz.prog SQG seatD9yE125 := EnFOK.of_fastD evMixed evNames seatD9yOrc_ok (tableL_self _) (tabE_ok (es := []) allNil) (n := 90) (fuel := 100000) (fun s t => rfl) (fun s t => by kernel_rfl)
end Go.Proofs.YtllppcehncckfaaGreatDoor
