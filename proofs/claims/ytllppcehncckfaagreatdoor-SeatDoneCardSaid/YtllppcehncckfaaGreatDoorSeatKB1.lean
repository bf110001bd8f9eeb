/- satrapy/satrapylaw18.known: in parts: the parts (1). -/
import Derived.Test.YtllppcehncckfaaGreatDoorSeatKD
import Derived.Test.YtllppcehncckfaaGreatDoorEwM9
import Derived.Test.YtllppcehncckfaaGreatDoorSortedAt2
import Derived.ProofKit
namespace Go.Proofs.YtllppcehncckfaaGreatDoor
open Go.RowKit
set_option linter.unusedVariables false
set_option linter.unusedSimpArgs false
set_option maxRecDepth 100000

theorem seatKE555_ok (h590 : EnFOK Tryz.prog SQG seatKE590) : EnFOK Tryz.prog SQG seatKE555 := EnFOK.of_fastD evMixed evNames seatKOrc_ok (tableL_self _) (tabE_ok (es := [seatKE590]) (allCons h590 allNil)) (n := 90) (fuel := 100000) (fun s t => rfl) (fun s t => by kernel_rfl)
theorem seatKE285_ok  : EnFOK Tryz.prog SQG seatKE285 := EnFOK.of_fastD evMixed evNames seatKOrc_ok (tableL_self _) (tabE_ok (es := []) allNil) (n := 90) (fuel := 100000) (fun s t => rfl) (fun s t => by kernel_rfl)
theorem seatKE717_ok (h719 : EnFOK Tryz.prog SQG seatKE719) (h827 : EnFOK Tryz.prog SQG seatKE827) (h927 : EnFOK Tryz.prog SQG seatKE927) (h974 : EnFOK Tryz.prog SQG seatKE974) (h1034 : EnFOK Tryz.prog SQG seatKE1034) (h1122 : EnFOK Tryz.prog SQG seatKE1122) : EnFOK Tryz.prog SQG seatKE717 := EnFOK.of_fastD evMixed evNames seatKOrc_ok (tableL_self _) (tabE_ok (es := [seatKE719, seatKE827, seatKE927, seatKE974, seatKE1034, seatKE1122]) (allCons h719 (allCons h827 (allCons h927 (allCons h974 (allCons h1034 (allCons h1122 allNil))))))) (n := 90) (fuel := 100000) (fun s t => rfl) (fun s t => by kernel_rfl)
theorem seatKE382_ok (h437 : EnFOK Tryz.prog SQG seatKE437) : EnFOK Tryz.prog SQG seatKE382 := EnFOK.of_fastD evMixed evNames seatKOrc_ok (tableL_self _) (tabE_ok (es := [seatKE437]) (allCons h437 allNil)) (n := 90) (fuel := 100000) (fun s t => rfl) (fun s t => by kernel_rfl)
theorem seatKE650_ok  : EnFOK Tryz.prog SQG seatKE650 := EnFOK.of_fastD evMixed evNames seatKOrc_ok (tableL_self _) (tabE_ok (es := []) allNil) (n := 90) (fuel := 100000) (fun s t => rfl) (fun s t => by kernel_rfl)
theorem seatKE237_ok  : EnFOK Tryz.prog SQG seatKE237 := EnFOK.of_fastD evMixed evNames seatKOrc_ok (tableL_self _) (tabE_ok (es := []) allNil) (n := 90) (fuel := 100000) (fun s t => rfl) (fun s t => by kernel_rfl)
theorem seatKE1028_ok  : EnFOK Tryz.prog SQG seatKE1028 := EnFOK.of_fastD evMixed evNames seatKOrc_ok (tableL_self _) (tabE_ok (es := []) allNil) (n := 90) (fuel := 100000) (fun s t => rfl) (fun s t => by kernel_rfl)
theorem seatKE981_ok  : EnFOK Tryz.prog SQG seatKE981 := EnFOK.of_fastD evMixed evNames seatKOrc_ok (tableL_self _) (tabE_ok (es := []) allNil) (n := 90) (fuel := 100000) (fun s t => rfl) (fun s t => by kernel_rfl)
end Go.Proofs.YtllppcehncckfaaGreatDoor
