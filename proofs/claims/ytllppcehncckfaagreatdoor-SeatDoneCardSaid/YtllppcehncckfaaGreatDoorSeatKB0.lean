/- satrapy/satrapylaw18.known: in parts: the parts (0). -/
import Derived.Test.YtllppcehncckfaaGreatDoorSeatKD
import Derived.Test.YtllppcehncckfaaGreatDoorEwM9
import Derived.Test.YtllppcehncckfaaGreatDoorSortedAt2
import Derived.ProofKit
namespace Go.Proofs.YtllppcehncckfaaGreatDoor
open Go.RowKit
set_option linter.unusedVariables false
set_option linter.unusedSimpArgs false
set_option maxRecDepth 100000

theorem seatKE719_ok  : EnFOK Tryz.prog SQG seatKE719 := EnFOK.of_fastD evMixed evNames seatKOrc_ok (tableL_self _) (tabE_ok (es := []) allNil) (n := 90) (fuel := 100000) (fun s t => rfl) (fun s t => by kernel_rfl)
theorem seatKE1034_ok (h1068 : EnFOK Tryz.prog SQG seatKE1068) : EnFOK Tryz.prog SQG seatKE1034 := EnFOK.of_fastD evMixed evNames seatKOrc_ok (tableL_self _) (tabE_ok (es := [seatKE1068]) (allCons h1068 allNil)) (n := 90) (fuel := 100000) (fun s t => rfl) (fun s t => by kernel_rfl)
theorem seatKE974_ok (h981 : EnFOK Tryz.prog SQG seatKE981) (h1028 : EnFOK Tryz.prog SQG seatKE1028) : EnFOK Tryz.prog SQG seatKE974 := EnFOK.of_fastD evMixed evNames seatKOrc_ok (tableL_self _) (tabE_ok (es := [seatKE981, seatKE1028]) (allCons h981 (allCons h1028 allNil))) (n := 90) (fuel := 100000) (fun s t => rfl) (fun s t => by kernel_rfl)
theorem seatKE927_ok  : EnFOK Tryz.prog SQG seatKE927 := EnFOK.of_fastD evMixed evNames seatKOrc_ok (tableL_self _) (tabE_ok (es := []) allNil) (n := 90) (fuel := 100000) (fun s t => rfl) (fun s t => by kernel_rfl)
theorem seatKE261_ok  : EnFOK Tryz.prog SQG seatKE261 := EnFOK.of_fastD evMixed evNames seatKOrc_ok (tableL_self _) (tabE_ok (es := []) allNil) (n := 90) (fuel := 100000) (fun s t => rfl) (fun s t => by kernel_rfl)
theorem seatKE165_ok  : EnFOK Tryz.prog SQG seatKE165 := EnFOK.of_fastD evMixed evNames seatKOrc_ok (tableL_self _) (tabE_ok (es := []) allNil) (n := 90) (fuel := 100000) (fun s t => rfl) (fun s t => by kernel_rfl)
theorem seatKE590_ok (h610 : EnFOK Tryz.prog SQG seatKE610) : EnFOK Tryz.prog SQG seatKE590 := EnFOK.of_fastD evMixed evNames seatKOrc_ok (tableL_self _) (tabE_ok (es := [seatKE610]) (allCons h610 allNil)) (n := 90) (fuel := 100000) (fun s t => rfl) (fun s t => by kernel_rfl)
theorem seatKE610_ok  : EnFOK Tryz.prog SQG seatKE610 := EnFOK.of_fastD evMixed evNames seatKOrc_ok (tableL_self _) (tabE_ok (es := []) allNil) (n := 90) (fuel := 100000) (fun s t => rfl) (fun s t => by kernel_rfl)
end Go.Proofs.YtllppcehncckfaaGreatDoor
