/- satrapy/satrapylaw18.SeatDone: in parts: the parts (1). -/
import Derived.Test.YtllppcehncckfaaGreatDoorSeatD10nD
import Derived.Test.YtllppcehncckfaaGreatDoorEwM9
import Derived.Test.YtllppcehncckfaaGreatDoorSortedAt2
import Derived.Test.YtllppcehncckfaaGreatDoorSeatKD
import Derived.ProofKit
namespace Go.Proofs.YtllppcehncckfaaGreatDoor
open Go.RowKit
set_option linter.unusedVariables false
set_option linter.unusedSimpArgs false
set_option maxRecDepth 100000

theorem seatD10nE1602_ok  : EnFOK Tryz.prog SQG seatD10nE1602 := EnFOK.of_fastD evMixed evNames seatD10nOrc_ok (tableL_self _) (tabE_ok (es := []) allNil) (n := 90) (fuel := 100000) (fun s t => rfl) (fun s t => by kernel_rfl)
theorem seatD10nE1207_ok (h1247 : EnFOK Tryz.prog SQG seatD10nE1247) : EnFOK Tryz.prog SQG seatD10nE1207 := EnFOK.of_fastD evMixed evNames seatD10nOrc_ok (tableL_self _) (tabE_ok (es := [seatD10nE1247]) (allCons h1247 allNil)) (n := 90) (fuel := 100000) (fun s t => rfl) (fun s t => by kernel_rfl)
theorem seatD10nE1095_ok (h1099 : EnFOK Tryz.prog SQG seatD10nE1099) (h1133 : EnFOK Tryz.prog SQG seatD10nE1133) (h1136 : EnFOK Tryz.prog SQG seatD10nE1136) (h1390 : EnFOK Tryz.prog SQG seatD10nE1390) (h1448 : EnFOK Tryz.prog SQG seatD10nE1448) (h1527 : EnFOK Tryz.prog SQG seatD10nE1527) : EnFOK Tryz.prog SQG seatD10nE1095 := EnFOK.of_fastD evMixed evNames seatD10nOrc_ok (tableL_self _) (tabE_ok (es := [seatD10nE1099, seatD10nE1133, seatD10nE1136, seatD10nE1390, seatD10nE1448, seatD10nE1527]) (allCons h1099 (allCons h1133 (allCons h1136 (allCons h1390 (allCons h1448 (allCons h1527 allNil))))))) (n := 90) (fuel := 100000) (fun s t => rfl) (fun s t => by kernel_rfl)
theorem seatD10nE876_ok  : EnFOK Tryz.prog SQG seatD10nE876 := EnFOK.of_fastD evMixed evNames seatD10nOrc_ok (tableL_self _) (tabE_ok (es := []) allNil) (n := 90) (fuel := 100000) (fun s t => rfl) (fun s t => by kernel_rfl)
theorem seatD10nE1527_ok  : EnFOK Tryz.prog SQG seatD10nE1527 := EnFOK.of_fastD evMixed evNames seatD10nOrc_ok (tableL_self _) (tabE_ok (es := []) allNil) (n := 90) (fuel := 100000) (fun s t => rfl) (fun s t => by kernel_rfl)
theorem seatD10nE674_ok  : EnFOK Tryz.prog SQG seatD10nE674 := EnFOK.of_fastD evMixed evNames seatD10nOrc_ok (tableL_self _) (tabE_ok (es := []) allNil) (n := 90) (fuel := 100000) (fun s t => rfl) (fun s t => by kernel_rfl)
theorem seatD10nE1030_ok  : EnFOK Tryz.prog SQG seatD10nE1030 := EnFOK.of_fastD evMixed evNames seatD10nOrc_ok (tableL_self _) (tabE_ok (es := []) allNil) (n := 90) (fuel := 100000) (fun s t => rfl) (fun s t => by kernel_rfl)
theorem seatD10nE941_ok  : EnFOK Tryz.prog SQG seatD10nE941 := EnFOK.of_fastD evMixed evNames seatD10nOrc_ok (tableL_self _) (tabE_ok (es := []) allNil) (n := 90) (fuel := 100000) (fun s t => rfl) (fun s t => by kernel_rfl)
theorem seatD10nE357_ok  : EnFOK Tryz.prog SQG seatD10nE357 := EnFOK.of_fastD evMixed evNames seatD10nOrc_ok (tableL_self _) (tabE_ok (es := []) allNil) (n := 90) (fuel := 100000) (fun s t => rfl) (fun s t => by kernel_rfl)
theorem seatD10nE309_ok  : EnFOK Tryz.prog SQG seatD10nE309 := EnFOK.of_fastD evMixed evNames seatD10nOrc_ok (tableL_self _) (tabE_ok (es := []) allNil) (n := 90) (fuel := 100000) (fun s t => rfl) (fun s t => by kernel_rfl)
theorem seatD10nE189_ok  : EnFOK Tryz.prog SQG seatD10nE189 := EnFOK.of_fastD evMixed evNames seatD10nOrc_ok (tableL_self _) (tabE_ok (es := []) allNil) (n := 90) (fuel := 100000) (fun s t => rfl) (fun s t => by kernel_rfl)
theorem seatD10nE1099_ok  : EnFOK Tryz.prog SQG seatD10nE1099 := EnFOK.of_fastD evMixed evNames seatD10nOrc_ok (tableL_self _) (tabE_ok (es := []) allNil) (n := 90) (fuel := 100000) (fun s t => rfl) (fun s t => by kernel_rfl)
theorem seatD10nE1564_ok  : EnFOK Tryz.prog SQG seatD10nE1564 := EnFOK.of_fastD evMixed evNames seatD10nOrc_ok (tableL_self _) (tabE_ok (es := []) allNil) (n := 90) (fuel := 100000) (fun s t => rfl) (fun s t => by kernel_rfl)
theorem seatD10nE1493_ok  : EnFOK Tryz.prog SQG seatD10nE1493 := EnFOK.of_fastD evMixed evNames seatD10nOrc_ok (tableL_self _) (tabE_ok (es := []) allNil) (n := 90) (fuel := 100000) (fun s t => rfl) (fun s t => by kernel_rfl)
end Go.Proofs.YtllppcehncckfaaGreatDoor
