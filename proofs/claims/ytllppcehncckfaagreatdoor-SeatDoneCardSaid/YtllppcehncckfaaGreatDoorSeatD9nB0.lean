/- satrapy/satrapylaw18.SeatDone: in parts: the parts (0). -/
import Derived.Test.YtllppcehncckfaaGreatDoorSeatD9nD
import Derived.Test.YtllppcehncckfaaGreatDoorEwM9
import Derived.Test.YtllppcehncckfaaGreatDoorSortedAt2
import Derived.Test.YtllppcehncckfaaGreatDoorSeatKD
import Derived.ProofKit
namespace Go.Proofs.YtllppcehncckfaaGreatDoor
open Go.RowKit
set_option linter.unusedVariables false
set_option linter.unusedSimpArgs false
set_option maxRecDepth 100000

theorem seatD9nE1602_ok  : EnFOK Tryz.prog SQG seatD9nE1602 := EnFOK.of_fastD evMixed evNames seatD9nOrc_ok (tableL_self _) (tabE_ok (es := []) allNil) (n := 90) (fuel := 100000) (fun s t => rfl) (fun s t => by kernel_rfl)
theorem seatD9nE111_ok (h125 : EnFOK Tryz.prog SQG seatD9nE125) : EnFOK Tryz.prog SQG seatD9nE111 := EnFOK.of_fastD evMixed evNames seatD9nOrc_ok (tableL_self _) (tabE_ok (es := [seatD9nE125]) (allCons h125 allNil)) (n := 90) (fuel := 100000) (fun s t => rfl) (fun s t => by kernel_rfl)
theorem seatD9nE1711_ok (h1718 : EnFOK Tryz.prog SQG seatD9nE1718) (h1764 : EnFOK Tryz.prog SQG seatD9nE1764) : EnFOK Tryz.prog SQG seatD9nE1711 := EnFOK.of_fastD evMixed evNames seatD9nOrc_ok (tableL_self _) (tabE_ok (es := [seatD9nE1718, seatD9nE1764]) (allCons h1718 (allCons h1764 allNil))) (n := 90) (fuel := 100000) (fun s t => rfl) (fun s t => by kernel_rfl)
theorem seatD9nE1054_ok  : EnFOK Tryz.prog SQG seatD9nE1054 := EnFOK.of_fastD evMixed evNames seatD9nOrc_ok (tableL_self _) (tabE_ok (es := []) allNil) (n := 90) (fuel := 100000) (fun s t => rfl) (fun s t => by kernel_rfl)
theorem seatD9nE1527_ok  : EnFOK Tryz.prog SQG seatD9nE1527 := EnFOK.of_fastD evMixed evNames seatD9nOrc_ok (tableL_self _) (tabE_ok (es := []) allNil) (n := 90) (fuel := 100000) (fun s t => rfl) (fun s t => by kernel_rfl)
theorem seatD9nE763_ok  : EnFOK Tryz.prog SQG seatD9nE763 := EnFOK.of_fastD evMixed evNames seatD9nOrc_ok (tableL_self _) (tabE_ok (es := []) allNil) (n := 90) (fuel := 100000) (fun s t => rfl) (fun s t => by kernel_rfl)
theorem seatD9nE261_ok  : EnFOK Tryz.prog SQG seatD9nE261 := EnFOK.of_fastD evMixed evNames seatD9nOrc_ok (tableL_self _) (tabE_ok (es := []) allNil) (n := 90) (fuel := 100000) (fun s t => rfl) (fun s t => by kernel_rfl)
theorem seatD9nE189_ok  : EnFOK Tryz.prog SQG seatD9nE189 := EnFOK.of_fastD evMixed evNames seatD9nOrc_ok (tableL_self _) (tabE_ok (es := []) allNil) (n := 90) (fuel := 100000) (fun s t => rfl) (fun s t => by kernel_rfl)
theorem seatD9nE1_ok (h32 : EnFOK Tryz.prog SQG seatD9nE32) (h97 : EnFOK Tryz.prog SQG seatD9nE97) : EnFOK Tryz.prog SQG seatD9nE1 := EnFOK.of_fastD evMixed evNames seatD9nOrc_ok (tableL_self _) (tabE_ok (es := [seatD9nE32, seatD9nE97]) (allCons h32 (allCons h97 allNil))) (n := 90) (fuel := 100000) (fun s t => rfl) (fun s t => by kernel_rfl)
theorem seatD9nE333_ok  : EnFOK Tryz.prog SQG seatD9nE333 := EnFOK.of_fastD evMixed evNames seatD9nOrc_ok (tableL_self _) (tabE_ok (es := []) allNil) (n := 90) (fuel := 100000) (fun s t => rfl) (fun s t => by kernel_rfl)
theorem seatD9nE285_ok  : EnFOK Tryz.prog SQG seatD9nE285 := EnFOK.of_fastD evMixed evNames seatD9nOrc_ok (tableL_self _) (tabE_ok (es := []) allNil) (n := 90) (fuel := 100000) (fun s t => rfl) (fun s t => by kernel_rfl)
theorem seatD9nE1443_ok  : EnFOK Tryz.prog SQG seatD9nE1443 := EnFOK.of_fastD evMixed evNames seatD9nOrc_ok (tableL_self _) (tabE_ok (es := []) allNil) (n := 90) (fuel := 100000) (fun s t => rfl) (fun s t => by kernel_rfl)
theorem seatD9nE1397_ok  : EnFOK Tryz.prog SQG seatD9nE1397 := EnFOK.of_fastD evMixed evNames seatD9nOrc_ok (tableL_self _) (tabE_ok (es := []) allNil) (n := 90) (fuel := 100000) (fun s t => rfl) (fun s t => by kernel_rfl)
theorem seatD9nE1493_ok  : EnFOK Tryz.prog SQG seatD9nE1493 := EnFOK.of_fastD evMixed evNames seatD9nOrc_ok (tableL_self _) (tabE_ok (es := []) allNil) (n := 90) (fuel := 100000) (fun s t => rfl) (fun s t => by kernel_rfl)
end Go.Proofs.YtllppcehncckfaaGreatDoor
