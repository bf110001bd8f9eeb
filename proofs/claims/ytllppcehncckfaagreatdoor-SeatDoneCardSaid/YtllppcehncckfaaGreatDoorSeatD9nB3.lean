/- satrapy/satrapylaw18.SeatDone: in parts: the parts (3). -/
import Derived.Test.YtllppcehncckfaaGreatDoorSeatD9nD
import Derived.Test.YtllppcehncckfaaGreatDoorEwM9
import Derived.Test.YtllppcehncckfaaGreatDoorSortedAt2
import Derived.Test.YtllppcehncckfaaGreatDoorSeatKD
import Derived.ProofKit
namespace Go.Proofs.YtllppcehncckfaaGreatDoor
open Go.RowKit
set_option linter.unusedVariables false
set_option linter.unusedSimpArgs false
set_option maxRecDepth 100000

theorem seatD9nE1244_ok  : EnFOK Tryz.prog SQG seatD9nE1244 := EnFOK.of_fastD evMixed evNames seatD9nOrc_ok (tableL_self _) (tabE_ok (es := []) allNil) (n := 90) (fuel := 100000) (fun s t => rfl) (fun s t => by kernel_rfl)
theorem seatD9nE555_ok (h570 : EnFOK Tryz.prog SQG seatD9nE570) (h590 : EnFOK Tryz.prog SQG seatD9nE590) : EnFOK Tryz.prog SQG seatD9nE555 := EnFOK.of_fastD evMixed evNames seatD9nOrc_ok (tableL_self _) (tabE_ok (es := [seatD9nE570, seatD9nE590]) (allCons h570 (allCons h590 allNil))) (n := 90) (fuel := 100000) (fun s t => rfl) (fun s t => by kernel_rfl)
theorem seatD9nE1792_ok  : EnFOK Tryz.prog SQG seatD9nE1792 := EnFOK.of_fastD evMixed evNames seatD9nOrc_ok (tableL_self _) (tabE_ok (es := []) allNil) (n := 90) (fuel := 100000) (fun s t => rfl) (fun s t => by kernel_rfl)
theorem seatD9nE382_ok (h437 : EnFOK Tryz.prog SQG seatD9nE437) : EnFOK Tryz.prog SQG seatD9nE382 := EnFOK.of_fastD evMixed evNames seatD9nOrc_ok (tableL_self _) (tabE_ok (es := [seatD9nE437]) (allCons h437 allNil)) (n := 90) (fuel := 100000) (fun s t => rfl) (fun s t => by kernel_rfl)
theorem seatD9nE876_ok  : EnFOK Tryz.prog SQG seatD9nE876 := EnFOK.of_fastD evMixed evNames seatD9nOrc_ok (tableL_self _) (tabE_ok (es := []) allNil) (n := 90) (fuel := 100000) (fun s t => rfl) (fun s t => by kernel_rfl)
theorem seatD9nE97_ok (h111 : EnFOK Tryz.prog SQG seatD9nE111) : EnFOK Tryz.prog SQG seatD9nE97 := EnFOK.of_fastD evMixed evNames seatD9nOrc_ok (tableL_self _) (tabE_ok (es := [seatD9nE111]) (allCons h111 allNil)) (n := 90) (fuel := 100000) (fun s t => rfl) (fun s t => by kernel_rfl)
theorem seatD9nE739_ok  : EnFOK Tryz.prog SQG seatD9nE739 := EnFOK.of_fastD evMixed evNames seatD9nOrc_ok (tableL_self _) (tabE_ok (es := []) allNil) (n := 90) (fuel := 100000) (fun s t => rfl) (fun s t => by kernel_rfl)
theorem seatD9nE357_ok  : EnFOK Tryz.prog SQG seatD9nE357 := EnFOK.of_fastD evMixed evNames seatD9nOrc_ok (tableL_self _) (tabE_ok (es := []) allNil) (n := 90) (fuel := 100000) (fun s t => rfl) (fun s t => by kernel_rfl)
theorem seatD9nE917_ok  : EnFOK Tryz.prog SQG seatD9nE917 := EnFOK.of_fastD evMixed evNames seatD9nOrc_ok (tableL_self _) (tabE_ok (es := []) allNil) (n := 90) (fuel := 100000) (fun s t => rfl) (fun s t => by kernel_rfl)
theorem seatD9nE309_ok  : EnFOK Tryz.prog SQG seatD9nE309 := EnFOK.of_fastD evMixed evNames seatD9nOrc_ok (tableL_self _) (tabE_ok (es := []) allNil) (n := 90) (fuel := 100000) (fun s t => rfl) (fun s t => by kernel_rfl)
theorem seatD9nE213_ok  : EnFOK Tryz.prog SQG seatD9nE213 := EnFOK.of_fastD evMixed evNames seatD9nOrc_ok (tableL_self _) (tabE_ok (es := []) allNil) (n := 90) (fuel := 100000) (fun s t => rfl) (fun s t => by kernel_rfl)
theorem seatD9nE1562_ok (h1564 : EnFOK Tryz.prog SQG seatD9nE1564) (h1598 : EnFOK Tryz.prog SQG seatD9nE1598) : EnFOK Tryz.prog SQG seatD9nE1562 := EnFOK.of_fastD evMixed evNames seatD9nOrc_ok (tableL_self _) (tabE_ok (es := [seatD9nE1564, seatD9nE1598]) (allCons h1564 (allCons h1598 allNil))) (n := 90) (fuel := 100000) (fun s t => rfl) (fun s t => by kernel_rfl)
theorem seatD9nE1133_ok  : EnFOK Tryz.prog SQG seatD9nE1133 := EnFOK.of_fastD evMixed evNames seatD9nOrc_ok (tableL_self _) (tabE_ok (es := []) allNil) (n := 90) (fuel := 100000) (fun s t => rfl) (fun s t => by kernel_rfl)
theorem seatD9nE610_ok  : EnFOK Tryz.prog SQG seatD9nE610 := EnFOK.of_fastD evMixed evNames seatD9nOrc_ok (tableL_self _) (tabE_ok (es := []) allNil) (n := 90) (fuel := 100000) (fun s t => rfl) (fun s t => by kernel_rfl)
end Go.Proofs.YtllppcehncckfaaGreatDoor
