/- satrapy/satrapylaw18.SeatDone: in parts: the parts (1). -/
import Derived.Test.YtllppcehncckfaaGreatDoorSeatD10yD
import Derived.Test.YtllppcehncckfaaGreatDoorEwM9
import Derived.Test.YtllppcehncckfaaGreatDoorSortedAt2
import Derived.Test.YtllppcehncckfaaGreatDoorSeatKD
import Derived.ProofKit
namespace Go.Proofs.YtllppcehncckfaaGreatDoor
open Go.RowKit
set_option linter.unusedVariables false
set_option linter.unusedSimpArgs false
set_option maxRecDepth 100000

theorem seatD10yE1448_ok (h1474 : EnFOK Tryz.prog SQG seatD10yE1474) : EnFOK Tryz.prog SQG seatD10yE1448 := EnFOK.of_fastD evMixed evNames seatD10yOrc_ok (tableL_self _) (tabE_ok (es := [seatD10yE1474]) (allCons h1474 allNil)) (n := 90) (fuel := 100000) (fun s t => rfl) (fun s t => by kernel_rfl)
theorem seatD10yE1207_ok (h1247 : EnFOK Tryz.prog SQG seatD10yE1247) : EnFOK Tryz.prog SQG seatD10yE1207 := EnFOK.of_fastD evMixed evNames seatD10yOrc_ok (tableL_self _) (tabE_ok (es := [seatD10yE1247]) (allCons h1247 allNil)) (n := 90) (fuel := 100000) (fun s t => rfl) (fun s t => by kernel_rfl)
theorem seatD10yE787_ok  : EnFOK Tryz.prog SQG seatD10yE787 := EnFOK.of_fastD evMixed evNames seatD10yOrc_ok (tableL_self _) (tabE_ok (es := []) allNil) (n := 90) (fuel := 100000) (fun s t => rfl) (fun s t => by kernel_rfl)
theorem seatD10yE1855_ok (h1862 : EnFOK Tryz.prog SQG seatD10yE1862) (h1908 : EnFOK Tryz.prog SQG seatD10yE1908) : EnFOK Tryz.prog SQG seatD10yE1855 := EnFOK.of_fastD evMixed evNames seatD10yOrc_ok (tableL_self _) (tabE_ok (es := [seatD10yE1862, seatD10yE1908]) (allCons h1862 (allCons h1908 allNil))) (n := 90) (fuel := 100000) (fun s t => rfl) (fun s t => by kernel_rfl)
theorem seatD10yE100_ok (h125 : EnFOK Tryz.prog SQG seatD10yE125) (h138 : EnFOK Tryz.prog SQG seatD10yE138) : EnFOK Tryz.prog SQG seatD10yE100 := EnFOK.of_fastD evMixed evNames seatD10yOrc_ok (tableL_self _) (tabE_ok (es := [seatD10yE125, seatD10yE138]) (allCons h125 (allCons h138 allNil))) (n := 90) (fuel := 100000) (fun s t => rfl) (fun s t => by kernel_rfl)
theorem seatD10yE1006_ok  : EnFOK Tryz.prog SQG seatD10yE1006 := EnFOK.of_fastD evMixed evNames seatD10yOrc_ok (tableL_self _) (tabE_ok (es := []) allNil) (n := 90) (fuel := 100000) (fun s t => rfl) (fun s t => by kernel_rfl)
theorem seatD10yE739_ok  : EnFOK Tryz.prog SQG seatD10yE739 := EnFOK.of_fastD evMixed evNames seatD10yOrc_ok (tableL_self _) (tabE_ok (es := []) allNil) (n := 90) (fuel := 100000) (fun s t => rfl) (fun s t => by kernel_rfl)
theorem seatD10yE189_ok  : EnFOK Tryz.prog SQG seatD10yE189 := EnFOK.of_fastD evMixed evNames seatD10yOrc_ok (tableL_self _) (tabE_ok (es := []) allNil) (n := 90) (fuel := 100000) (fun s t => rfl) (fun s t => by kernel_rfl)
theorem seatD10yE309_ok  : EnFOK Tryz.prog SQG seatD10yE309 := EnFOK.of_fastD evMixed evNames seatD10yOrc_ok (tableL_self _) (tabE_ok (es := []) allNil) (n := 90) (fuel := 100000) (fun s t => rfl) (fun s t => by kernel_rfl)
theorem seatD10yE590_ok (h610 : EnFOK Tryz.prog SQG seatD10yE610) : EnFOK Tryz.prog SQG seatD10yE590 := EnFOK.of_fastD evMixed evNames seatD10yOrc_ok (tableL_self _) (tabE_ok (es := [seatD10yE610]) (allCons h610 allNil)) (n := 90) (fuel := 100000) (fun s t => rfl) (fun s t => by kernel_rfl)
theorem seatD10yE1247_ok  : EnFOK Tryz.prog SQG seatD10yE1247 := EnFOK.of_fastD evMixed evNames seatD10yOrc_ok (tableL_self _) (tabE_ok (es := []) allNil) (n := 90) (fuel := 100000) (fun s t => rfl) (fun s t => by kernel_rfl)
theorem seatD10yE1474_ok (h1493 : EnFOK Tryz.prog SQG seatD10yE1493) : EnFOK Tryz.prog SQG seatD10yE1474 := EnFOK.of_fastD evMixed evNames seatD10yOrc_ok (tableL_self _) (tabE_ok (es := [seatD10yE1493]) (allCons h1493 allNil)) (n := 90) (fuel := 100000) (fun s t => rfl) (fun s t => by kernel_rfl)
theorem seatD10yE1099_ok  : EnFOK Tryz.prog SQG seatD10yE1099 := EnFOK.of_fastD evMixed evNames seatD10yOrc_ok (tableL_self _) (tabE_ok (es := []) allNil) (n := 90) (fuel := 100000) (fun s t => rfl) (fun s t => by kernel_rfl)
theorem seatD10yE1598_ok  : EnFOK Tryz.prog SQG seatD10yE1598 := EnFOK.of_fastD evMixed evNames seatD10yOrc_ok (tableL_self _) (tabE_ok (es := []) allNil) (n := 90) (fuel := 100000) (fun s t => rfl) (fun s t => by kernel_rfl)
theorem seatD10yE1493_ok  : EnFOK Tryz.prog SQG seatD10yE1493 := EnFOK.of_fastD evMixed evNames seatD10yOrc_ok (tableL_self _) (tabE_ok (es := []) allNil) (n := 90) (fuel := 100000) (fun s t => rfl) (fun s t => by kernel_rfl)
theorem seatD10yE570_ok  : EnFOK Tryz.prog SQG seatD10yE570 := EnFOK.of_fastD evMixed evNames seatD10yOrc_ok (tableL_self _) (tabE_ok (es := []) allNil) (n := 90) (fuel := 100000) (fun s t => rfl) (fun s t => by kernel_rfl)
end Go.Proofs.YtllppcehncckfaaGreatDoor
