/- satrapy/satrapylaw18.SeatDone: in parts: the parts (2). -/
import Derived.Test.YtllppcehncckfaaGreatDoorSeatD10yD
import Derived.Test.YtllppcehncckfaaGreatDoorEwM9
import Derived.Test.YtllppcehncckfaaGreatDoorSortedAt2
import Derived.Test.YtllppcehncckfaaGreatDoorSeatKD
import Derived.ProofKit
namespace Go.Proofs.YtllppcehncckfaaGreatDoor
open Go.RowKit
set_option linter.unusedVariables false
set_option linter.unusedSimpArgs false
set_option maxRecDepth 100000

theorem seatD10yE1602_ok  : EnFOK Tryz.prog SQG seatD10yE1602 := EnFOK.of_fastD evMixed evNames seatD10yOrc_ok (tableL_self _) (tabE_ok (es := []) allNil) (n := 90) (fuel := 100000) (fun s t => rfl) (fun s t => by kernel_rfl)
theorem seatD10yE1938_ok (h1958 : EnFOK Tryz.prog SQG seatD10yE1958) : EnFOK Tryz.prog SQG seatD10yE1938 := EnFOK.of_fastD evMixed evNames seatD10yOrc_ok (tableL_self _) (tabE_ok (es := [seatD10yE1958]) (allCons h1958 allNil)) (n := 90) (fuel := 100000) (fun s t => rfl) (fun s t => by kernel_rfl)
theorem seatD10yE965_ok  : EnFOK Tryz.prog SQG seatD10yE965 := EnFOK.of_fastD evMixed evNames seatD10yOrc_ok (tableL_self _) (tabE_ok (es := []) allNil) (n := 90) (fuel := 100000) (fun s t => rfl) (fun s t => by kernel_rfl)
theorem seatD10yE698_ok  : EnFOK Tryz.prog SQG seatD10yE698 := EnFOK.of_fastD evMixed evNames seatD10yOrc_ok (tableL_self _) (tabE_ok (es := []) allNil) (n := 90) (fuel := 100000) (fun s t => rfl) (fun s t => by kernel_rfl)
theorem seatD10yE4_ok (h32 : EnFOK Tryz.prog SQG seatD10yE32) (h100 : EnFOK Tryz.prog SQG seatD10yE100) : EnFOK Tryz.prog SQG seatD10yE4 := EnFOK.of_fastD evMixed evNames seatD10yOrc_ok (tableL_self _) (tabE_ok (es := [seatD10yE32, seatD10yE100]) (allCons h32 (allCons h100 allNil))) (n := 90) (fuel := 100000) (fun s t => rfl) (fun s t => by kernel_rfl)
theorem seatD10yE1030_ok  : EnFOK Tryz.prog SQG seatD10yE1030 := EnFOK.of_fastD evMixed evNames seatD10yOrc_ok (tableL_self _) (tabE_ok (es := []) allNil) (n := 90) (fuel := 100000) (fun s t => rfl) (fun s t => by kernel_rfl)
theorem seatD10yE941_ok  : EnFOK Tryz.prog SQG seatD10yE941 := EnFOK.of_fastD evMixed evNames seatD10yOrc_ok (tableL_self _) (tabE_ok (es := []) allNil) (n := 90) (fuel := 100000) (fun s t => rfl) (fun s t => by kernel_rfl)
theorem seatD10yE237_ok  : EnFOK Tryz.prog SQG seatD10yE237 := EnFOK.of_fastD evMixed evNames seatD10yOrc_ok (tableL_self _) (tabE_ok (es := []) allNil) (n := 90) (fuel := 100000) (fun s t => rfl) (fun s t => by kernel_rfl)
theorem seatD10yE32_ok  : EnFOK Tryz.prog SQG seatD10yE32 := EnFOK.of_fastD evMixed evNames seatD10yOrc_ok (tableL_self _) (tabE_ok (es := []) allNil) (n := 90) (fuel := 100000) (fun s t => rfl) (fun s t => by kernel_rfl)
theorem seatD10yE165_ok  : EnFOK Tryz.prog SQG seatD10yE165 := EnFOK.of_fastD evMixed evNames seatD10yOrc_ok (tableL_self _) (tabE_ok (es := []) allNil) (n := 90) (fuel := 100000) (fun s t => rfl) (fun s t => by kernel_rfl)
theorem seatD10yE333_ok  : EnFOK Tryz.prog SQG seatD10yE333 := EnFOK.of_fastD evMixed evNames seatD10yOrc_ok (tableL_self _) (tabE_ok (es := []) allNil) (n := 90) (fuel := 100000) (fun s t => rfl) (fun s t => by kernel_rfl)
theorem seatD10yE1714_ok  : EnFOK Tryz.prog SQG seatD10yE1714 := EnFOK.of_fastD evMixed evNames seatD10yOrc_ok (tableL_self _) (tabE_ok (es := []) allNil) (n := 90) (fuel := 100000) (fun s t => rfl) (fun s t => by kernel_rfl)
theorem seatD10yE1562_ok (h1564 : EnFOK Tryz.prog SQG seatD10yE1564) (h1598 : EnFOK Tryz.prog SQG seatD10yE1598) : EnFOK Tryz.prog SQG seatD10yE1562 := EnFOK.of_fastD evMixed evNames seatD10yOrc_ok (tableL_self _) (tabE_ok (es := [seatD10yE1564, seatD10yE1598]) (allCons h1564 (allCons h1598 allNil))) (n := 90) (fuel := 100000) (fun s t => rfl) (fun s t => by kernel_rfl)
theorem seatD10yE1133_ok  : EnFOK Tryz.prog SQG seatD10yE1133 := EnFOK.of_fastD evMixed evNames seatD10yOrc_ok (tableL_self _) (tabE_ok (es := []) allNil) (n := 90) (fuel := 100000) (fun s t => rfl) (fun s t => by kernel_rfl)
theorem seatD10yE1958_ok  : EnFOK Tryz.prog SQG seatD10yE1958 := EnFOK.of_fastD evMixed evNames seatD10yOrc_ok (tableL_self _) (tabE_ok (es := []) allNil) (n := 90) (fuel := 100000) (fun s t => rfl) (fun s t => by kernel_rfl)
theorem seatD10yE125_ok  : EnFOK Tryz.prog SQG seatD10yE125 := EnFOK.of_fastD evMixed evNames seatD10yOrc_ok (tableL_self _) (tabE_ok (es := []) allNil) (n := 90) (fuel := 100000) (fun s t => rfl) (fun s t => by kernel_rfl)
end Go.Proofs.YtllppcehncckfaaGreatDoor
