/- satrapy/satrapylaw18.SeatDone: in parts: the parts (0). -/
import Derived.Test.YtllppcehncckfaaGreatDoorSeatD10nD
import Derived.Test.YtllppcehncckfaaGreatDoorEwM9
import Derived.Test.YtllppcehncckfaaGreatDoorSortedAt2
import Derived.Test.YtllppcehncckfaaGreatDoorSeatKD
import Derived.ProofKit
namespace Go.Proofs.YtllppcehncckfaaGreatDoor
open Go.RowKit
set_option linter.unusedVariables false
set_option linter.unusedSimpArgs false
set_option maxRecDepth 100000

theorem seatD10nE1137_ok  : EnFOK Tryz.prog SQG seatD10nE1137 := EnFOK.of_fastD evMixed evNames seatD10nOrc_ok (tableL_self _) (tabE_ok (es := []) allNil) (n := 90) (fuel := 100000) (fun s t => rfl) (fun s t => by kernel_rfl)
theorem seatD10nE1792_ok  : EnFOK Tryz.prog SQG seatD10nE1792 := EnFOK.of_fastD evMixed evNames seatD10nOrc_ok (tableL_self _) (tabE_ok (es := []) allNil) (n := 90) (fuel := 100000) (fun s t => rfl) (fun s t => by kernel_rfl)
theorem seatD10nE1443_ok  : EnFOK Tryz.prog SQG seatD10nE1443 := EnFOK.of_fastD evMixed evNames seatD10nOrc_ok (tableL_self _) (tabE_ok (es := []) allNil) (n := 90) (fuel := 100000) (fun s t => rfl) (fun s t => by kernel_rfl)
theorem seatD10nE698_ok  : EnFOK Tryz.prog SQG seatD10nE698 := EnFOK.of_fastD evMixed evNames seatD10nOrc_ok (tableL_self _) (tabE_ok (es := []) allNil) (n := 90) (fuel := 100000) (fun s t => rfl) (fun s t => by kernel_rfl)
theorem seatD10nE382_ok (h437 : EnFOK Tryz.prog SQG seatD10nE437) : EnFOK Tryz.prog SQG seatD10nE382 := EnFOK.of_fastD evMixed evNames seatD10nOrc_ok (tableL_self _) (tabE_ok (es := [seatD10nE437]) (allCons h437 allNil)) (n := 90) (fuel := 100000) (fun s t => rfl) (fun s t => by kernel_rfl)
theorem seatD10nE165_ok  : EnFOK Tryz.prog SQG seatD10nE165 := EnFOK.of_fastD evMixed evNames seatD10nOrc_ok (tableL_self _) (tabE_ok (es := []) allNil) (n := 90) (fuel := 100000) (fun s t => rfl) (fun s t => by kernel_rfl)
theorem seatD10nE1136_ok (h1137 : EnFOK Tryz.prog SQG seatD10nE1137) (h1207 : EnFOK Tryz.prog SQG seatD10nE1207) : EnFOK Tryz.prog SQG seatD10nE1136 := EnFOK.of_fastD evMixed evNames seatD10nOrc_ok (tableL_self _) (tabE_ok (es := [seatD10nE1137, seatD10nE1207]) (allCons h1137 (allCons h1207 allNil))) (n := 90) (fuel := 100000) (fun s t => rfl) (fun s t => by kernel_rfl)
theorem seatD10nE917_ok  : EnFOK Tryz.prog SQG seatD10nE917 := EnFOK.of_fastD evMixed evNames seatD10nOrc_ok (tableL_self _) (tabE_ok (es := []) allNil) (n := 90) (fuel := 100000) (fun s t => rfl) (fun s t => by kernel_rfl)
theorem seatD10nE237_ok  : EnFOK Tryz.prog SQG seatD10nE237 := EnFOK.of_fastD evMixed evNames seatD10nOrc_ok (tableL_self _) (tabE_ok (es := []) allNil) (n := 90) (fuel := 100000) (fun s t => rfl) (fun s t => by kernel_rfl)
theorem seatD10nE213_ok  : EnFOK Tryz.prog SQG seatD10nE213 := EnFOK.of_fastD evMixed evNames seatD10nOrc_ok (tableL_self _) (tabE_ok (es := []) allNil) (n := 90) (fuel := 100000) (fun s t => rfl) (fun s t => by kernel_rfl)
theorem seatD10nE261_ok  : EnFOK Tryz.prog SQG seatD10nE261 := EnFOK.of_fastD evMixed evNames seatD10nOrc_ok (tableL_self _) (tabE_ok (es := []) allNil) (n := 90) (fuel := 100000) (fun s t => rfl) (fun s t => by kernel_rfl)
theorem seatD10nE1562_ok (h1564 : EnFOK Tryz.prog SQG seatD10nE1564) (h1598 : EnFOK Tryz.prog SQG seatD10nE1598) : EnFOK Tryz.prog SQG seatD10nE1562 := EnFOK.of_fastD evMixed evNames seatD10nOrc_ok (tableL_self _) (tabE_ok (es := [seatD10nE1564, seatD10nE1598]) (allCons h1564 (allCons h1598 allNil))) (n := 90) (fuel := 100000) (fun s t => rfl) (fun s t => by kernel_rfl)
theorem seatD10nE1764_ok  : EnFOK Tryz.prog SQG seatD10nE1764 := EnFOK.of_fastD evMixed evNames seatD10nOrc_ok (tableL_self _) (tabE_ok (es := []) allNil) (n := 90) (fuel := 100000) (fun s t => rfl) (fun s t => by kernel_rfl)
theorem seatD10nE1397_ok  : EnFOK Tryz.prog SQG seatD10nE1397 := EnFOK.of_fastD evMixed evNames seatD10nOrc_ok (tableL_self _) (tabE_ok (es := []) allNil) (n := 90) (fuel := 100000) (fun s t => rfl) (fun s t => by kernel_rfl)
theorem seatD10nE125_ok  : EnFOK Tryz.prog SQG seatD10nE125 := EnFOK.of_fastD evMixed evNames seatD10nOrc_ok (tableL_self _) (tabE_ok (es := []) allNil) (n := 90) (fuel := 100000) (fun s t => rfl) (fun s t => by kernel_rfl)
end Go.Proofs.YtllppcehncckfaaGreatDoor
