/- satrapy/satrapylaw18.SeatDone: in parts: the parts (2). -/
import Derived.Test.YtllppcehncckfaaGreatDoorSeatD10nD
import Derived.Test.YtllppcehncckfaaGreatDoorEwM9
import Derived.Test.YtllppcehncckfaaGreatDoorSortedAt2
import Derived.Test.YtllppcehncckfaaGreatDoorSeatKD
import Derived.ProofKit
namespace Go.Proofs.YtllppcehncckfaaGreatDoor
open Go.RowKit
set_option linter.unusedVariables false
set_option linter.unusedSimpArgs false
set_option maxRecDepth 100000

theorem seatD10nE555_ok (h590 : EnFOK Tryz.prog SQG seatD10nE590) : EnFOK Tryz.prog SQG seatD10nE555 := EnFOK.of_fastD evMixed evNames seatD10nOrc_ok (tableL_self _) (tabE_ok (es := [seatD10nE590]) (allCons h590 allNil)) (n := 90) (fuel := 100000) (fun s t => rfl) (fun s t => by kernel_rfl)
theorem seatD10nE111_ok (h125 : EnFOK Tryz.prog SQG seatD10nE125) : EnFOK Tryz.prog SQG seatD10nE111 := EnFOK.of_fastD evMixed evNames seatD10nOrc_ok (tableL_self _) (tabE_ok (es := [seatD10nE125]) (allCons h125 allNil)) (n := 90) (fuel := 100000) (fun s t => rfl) (fun s t => by kernel_rfl)
theorem seatD10nE1711_ok (h1718 : EnFOK Tryz.prog SQG seatD10nE1718) (h1764 : EnFOK Tryz.prog SQG seatD10nE1764) : EnFOK Tryz.prog SQG seatD10nE1711 := EnFOK.of_fastD evMixed evNames seatD10nOrc_ok (tableL_self _) (tabE_ok (es := [seatD10nE1718, seatD10nE1764]) (allCons h1718 (allCons h1764 allNil))) (n := 90) (fuel := 100000) (fun s t => rfl) (fun s t => by kernel_rfl)
theorem seatD10nE1448_ok (h1473 : EnFOK Tryz.prog SQG seatD10nE1473) : EnFOK Tryz.prog SQG seatD10nE1448 := EnFOK.of_fastD evMixed evNames seatD10nOrc_ok (tableL_self _) (tabE_ok (es := [seatD10nE1473]) (allCons h1473 allNil)) (n := 90) (fuel := 100000) (fun s t => rfl) (fun s t => by kernel_rfl)
theorem seatD10nE965_ok  : EnFOK Tryz.prog SQG seatD10nE965 := EnFOK.of_fastD evMixed evNames seatD10nOrc_ok (tableL_self _) (tabE_ok (es := []) allNil) (n := 90) (fuel := 100000) (fun s t => rfl) (fun s t => by kernel_rfl)
theorem seatD10nE32_ok  : EnFOK Tryz.prog SQG seatD10nE32 := EnFOK.of_fastD evMixed evNames seatD10nOrc_ok (tableL_self _) (tabE_ok (es := []) allNil) (n := 90) (fuel := 100000) (fun s t => rfl) (fun s t => by kernel_rfl)
theorem seatD10nE1006_ok  : EnFOK Tryz.prog SQG seatD10nE1006 := EnFOK.of_fastD evMixed evNames seatD10nOrc_ok (tableL_self _) (tabE_ok (es := []) allNil) (n := 90) (fuel := 100000) (fun s t => rfl) (fun s t => by kernel_rfl)
theorem seatD10nE739_ok  : EnFOK Tryz.prog SQG seatD10nE739 := EnFOK.of_fastD evMixed evNames seatD10nOrc_ok (tableL_self _) (tabE_ok (es := []) allNil) (n := 90) (fuel := 100000) (fun s t => rfl) (fun s t => by kernel_rfl)
theorem seatD10nE852_ok  : EnFOK Tryz.prog SQG seatD10nE852 := EnFOK.of_fastD evMixed evNames seatD10nOrc_ok (tableL_self _) (tabE_ok (es := []) allNil) (n := 90) (fuel := 100000) (fun s t => rfl) (fun s t => by kernel_rfl)
theorem seatD10nE1_ok (h32 : EnFOK Tryz.prog SQG seatD10nE32) (h97 : EnFOK Tryz.prog SQG seatD10nE97) : EnFOK Tryz.prog SQG seatD10nE1 := EnFOK.of_fastD evMixed evNames seatD10nOrc_ok (tableL_self _) (tabE_ok (es := [seatD10nE32, seatD10nE97]) (allCons h32 (allCons h97 allNil))) (n := 90) (fuel := 100000) (fun s t => rfl) (fun s t => by kernel_rfl)
theorem seatD10nE590_ok (h610 : EnFOK Tryz.prog SQG seatD10nE610) : EnFOK Tryz.prog SQG seatD10nE590 := EnFOK.of_fastD evMixed evNames seatD10nOrc_ok (tableL_self _) (tabE_ok (es := [seatD10nE610]) (allCons h610 allNil)) (n := 90) (fuel := 100000) (fun s t => rfl) (fun s t => by kernel_rfl)
theorem seatD10nE1247_ok  : EnFOK Tryz.prog SQG seatD10nE1247 := EnFOK.of_fastD evMixed evNames seatD10nOrc_ok (tableL_self _) (tabE_ok (es := []) allNil) (n := 90) (fuel := 100000) (fun s t => rfl) (fun s t => by kernel_rfl)
theorem seatD10nE1133_ok  : EnFOK Tryz.prog SQG seatD10nE1133 := EnFOK.of_fastD evMixed evNames seatD10nOrc_ok (tableL_self _) (tabE_ok (es := []) allNil) (n := 90) (fuel := 100000) (fun s t => rfl) (fun s t => by kernel_rfl)
theorem seatD10nE610_ok  : EnFOK Tryz.prog SQG seatD10nE610 := EnFOK.of_fastD evMixed evNames seatD10nOrc_ok (tableL_self _) (tabE_ok (es := []) allNil) (n := 90) (fuel := 100000) (fun s t => rfl) (fun s t => by kernel_rfl)
end Go.Proofs.YtllppcehncckfaaGreatDoor
