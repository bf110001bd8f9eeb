/- What may be a request: satrapy/op.May: a tree of questions. -/
import Derived.Test.YtblknjclkecglaaMayA
import Derived.ProofKit
namespace Go.Proofs.Ytblknjclkecglaa
open Go.RowKit
set_option linter.unusedVariables false
set_option linter.unusedSimpArgs false
set_option maxRecDepth 100000

def mayOFk0y : KB := mayKB.put 0 ⟨-9223372036854775808, 0, []⟩
def mayOFk0n : KB := mayKB.put 0 ⟨1, 9223372036854775807, []⟩
theorem mayOFh1 : DT.leaf.check (okF mayFmF Try.prog noOrc (fun _ => none) (fun _ => false) [3, 4, 5, 6] mayET 100000 (cFnL Try.prog) noTab 90 10 mayArgsF) mayOFk0y = true := check_leaf (by kernel_rfl)
def mayOFk2y : KB := mayOFk0n.put 0 ⟨1, 7, []⟩
def mayOFk2n : KB := mayOFk0n.put 0 ⟨8, 9223372036854775807, []⟩
def mayOFk3y : KB := mayOFk2y.put 1 ⟨-9223372036854775808, 0, []⟩
def mayOFk3n : KB := mayOFk2y.put 1 ⟨1, 9223372036854775807, []⟩
theorem mayOFh4 : DT.leaf.check (okF mayFmF Try.prog noOrc (fun _ => none) (fun _ => false) [3, 4, 5, 6] mayET 100000 (cFnL Try.prog) noTab 90 10 mayArgsF) mayOFk3y = true := check_leaf (by kernel_rfl)
def mayOFk5y : KB := mayOFk3n.put 1 ⟨1, 1048576, []⟩
def mayOFk5n : KB := mayOFk3n.put 1 ⟨1048577, 9223372036854775807, []⟩
def mayOFk6y : KB := mayOFk5y.put 2 ⟨-9223372036854775808, 0, []⟩
def mayOFk6n : KB := mayOFk5y.put 2 ⟨1, 9223372036854775807, []⟩
theorem mayOFh7 : DT.leaf.check (okF mayFmF Try.prog noOrc (fun _ => none) (fun _ => false) [3, 4, 5, 6] mayET 100000 (cFnL Try.prog) noTab 90 10 mayArgsF) mayOFk6y = true := check_leaf (by kernel_rfl)
def mayOFk8y : KB := mayOFk6n.put 2 ⟨1, 1099511627776, []⟩
def mayOFk8n : KB := mayOFk6n.put 2 ⟨1099511627777, 9223372036854775807, []⟩
def mayOFk9y : KB := mayOFk8y.put 1003 ⟨0, 0, []⟩
def mayOFk9n : KB := mayOFk8y.put 1003 ⟨1, 10000, []⟩
theorem mayOFh10 : DT.leaf.check (okF mayFmF Try.prog noOrc (fun _ => none) (fun _ => false) [3, 4, 5, 6] mayET 100000 (cFnL Try.prog) noTab 90 10 mayArgsF) mayOFk9y = true := check_leaf (by kernel_rfl)
def mayOFk11y : KB := mayOFk9n.put 1003 ⟨1, 16, []⟩
def mayOFk11n : KB := mayOFk9n.put 1003 ⟨17, 10000, []⟩
def mayOFk12y : KB := mayOFk11y.put 1004 ⟨0, 0, []⟩
def mayOFk12n : KB := mayOFk11y.put 1004 ⟨1, 10000, []⟩
theorem mayOFh13 : DT.leaf.check (okF mayFmF Try.prog noOrc (fun _ => none) (fun _ => false) [3, 4, 5, 6] mayET 100000 (cFnL Try.prog) noTab 90 10 mayArgsF) mayOFk12y = true := check_leaf (by kernel_rfl)
def mayOFk14y : KB := mayOFk12n.put 1004 ⟨1, 16, []⟩
def mayOFk14n : KB := mayOFk12n.put 1004 ⟨17, 10000, []⟩
def mayOFk15y : KB := mayOFk14y.put 0 ⟨1, 1, []⟩
def mayOFk15n : KB := mayOFk14y.put 0 ⟨2, 7, []⟩
def mayOFk16y : KB := mayOFk15y.put 7 ⟨-9223372036854775808, -1, []⟩
def mayOFk16n : KB := mayOFk15y.put 7 ⟨0, 9223372036854775807, []⟩
theorem mayOFh17 : DT.leaf.check (okF mayFmF Try.prog noOrc (fun _ => none) (fun _ => false) [3, 4, 5, 6] mayET 100000 (cFnL Try.prog) noTab 90 10 mayArgsF) mayOFk16y = true := check_leaf (by kernel_rfl)
def mayOFk18y : KB := mayOFk16n.put 7 ⟨0, 3, []⟩
def mayOFk18n : KB := mayOFk16n.put 7 ⟨4, 9223372036854775807, []⟩
def mayOFk19y : KB := mayOFk18y.put 8 ⟨-9223372036854775808, 0, []⟩
def mayOFk19n : KB := mayOFk18y.put 8 ⟨1, 9223372036854775807, []⟩
theorem mayOFh20 : DT.leaf.check (okF mayFmF Try.prog noOrc (fun _ => none) (fun _ => false) [3, 4, 5, 6] mayET 100000 (cFnL Try.prog) noTab 90 10 mayArgsF) mayOFk19y = true := check_leaf (by kernel_rfl)
def mayOFk21y : KB := mayOFk19n.put 8 ⟨1, 1048576, []⟩
def mayOFk21n : KB := mayOFk19n.put 8 ⟨1048577, 9223372036854775807, []⟩
def mayOFk22y : KB := mayOFk21y.put 1005 ⟨0, 0, []⟩
def mayOFk22n : KB := mayOFk21y.put 1005 ⟨1, 10000, []⟩
def mayOFk23y : KB := mayOFk22y.put 1006 ⟨0, 0, []⟩
def mayOFk23n : KB := mayOFk22y.put 1006 ⟨1, 10000, []⟩
def mayOFk24y : KB := mayOFk23y.put 9 ⟨0, 0, []⟩
def mayOFk24n : KB := mayOFk23y.put 9 ⟨-9223372036854775808, 9223372036854775807, [0]⟩
def mayOFk25y : KB := mayOFk24y.put 11 ⟨0, 0, []⟩
def mayOFk25n : KB := mayOFk24y.put 11 ⟨-9223372036854775808, 9223372036854775807, [0]⟩
theorem mayOFh26 : DT.leaf.check (okF mayFmF Try.prog noOrc (fun _ => none) (fun _ => false) [3, 4, 5, 6] mayET 100000 (cFnL Try.prog) noTab 90 10 mayArgsF) mayOFk25y = true := check_leaf (by kernel_rfl)
theorem mayOFh27 : DT.leaf.check (okF mayFmF Try.prog noOrc (fun _ => none) (fun _ => false) [3, 4, 5, 6] mayET 100000 (cFnL Try.prog) noTab 90 10 mayArgsF) mayOFk25n = true := check_leaf (by kernel_rfl)
def mayOFt25 : DT := .same 11 (0) .leaf .leaf
theorem mayOFh25 : mayOFt25.check (okF mayFmF Try.prog noOrc (fun _ => none) (fun _ => false) [3, 4, 5, 6] mayET 100000 (cFnL Try.prog) noTab 90 10 mayArgsF) mayOFk24y = true := check_same (Ky := mayOFk25y) (Kn := mayOFk25n) (i := ⟨-9223372036854775808, 9223372036854775807, []⟩) (by kernel_rfl) (by kernel_rfl) (by kernel_rfl) (.inr mayOFh26) (.inr mayOFh27)
theorem mayOFh28 : DT.leaf.check (okF mayFmF Try.prog noOrc (fun _ => none) (fun _ => false) [3, 4, 5, 6] mayET 100000 (cFnL Try.prog) noTab 90 10 mayArgsF) mayOFk24n = true := check_leaf (by kernel_rfl)
def mayOFt24 : DT := .same 9 (0) mayOFt25 .leaf
theorem mayOFh24 : mayOFt24.check (okF mayFmF Try.prog noOrc (fun _ => none) (fun _ => false) [3, 4, 5, 6] mayET 100000 (cFnL Try.prog) noTab 90 10 mayArgsF) mayOFk23y = true := check_same (Ky := mayOFk24y) (Kn := mayOFk24n) (i := ⟨-9223372036854775808, 9223372036854775807, []⟩) (by kernel_rfl) (by kernel_rfl) (by kernel_rfl) (.inr mayOFh25) (.inr mayOFh28)
theorem mayOFh29 : DT.leaf.check (okF mayFmF Try.prog noOrc (fun _ => none) (fun _ => false) [3, 4, 5, 6] mayET 100000 (cFnL Try.prog) noTab 90 10 mayArgsF) mayOFk23n = true := check_leaf (by kernel_rfl)
def mayOFt23 : DT := .same 1006 (0) mayOFt24 .leaf
theorem mayOFh23 : mayOFt23.check (okF mayFmF Try.prog noOrc (fun _ => none) (fun _ => false) [3, 4, 5, 6] mayET 100000 (cFnL Try.prog) noTab 90 10 mayArgsF) mayOFk22y = true := check_same (Ky := mayOFk23y) (Kn := mayOFk23n) (i := ⟨0, 10000, []⟩) (by kernel_rfl) (by kernel_rfl) (by kernel_rfl) (.inr mayOFh24) (.inr mayOFh29)
theorem mayOFh30 : DT.leaf.check (okF mayFmF Try.prog noOrc (fun _ => none) (fun _ => false) [3, 4, 5, 6] mayET 100000 (cFnL Try.prog) noTab 90 10 mayArgsF) mayOFk22n = true := check_leaf (by kernel_rfl)
def mayOFt22 : DT := .same 1005 (0) mayOFt23 .leaf
theorem mayOFh22 : mayOFt22.check (okF mayFmF Try.prog noOrc (fun _ => none) (fun _ => false) [3, 4, 5, 6] mayET 100000 (cFnL Try.prog) noTab 90 10 mayArgsF) mayOFk21y = true := check_same (Ky := mayOFk22y) (Kn := mayOFk22n) (i := ⟨0, 10000, []⟩) (by kernel_rfl) (by kernel_rfl) (by kernel_rfl) (.inr mayOFh23) (.inr mayOFh30)
theorem mayOFh31 : DT.leaf.check (okF mayFmF Try.prog noOrc (fun _ => none) (fun _ => false) [3, 4, 5, 6] mayET 100000 (cFnL Try.prog) noTab 90 10 mayArgsF) mayOFk21n = true := check_leaf (by kernel_rfl)
def mayOFt21 : DT := .less 8 (1048577) mayOFt22 .leaf
theorem mayOFh21 : mayOFt21.check (okF mayFmF Try.prog noOrc (fun _ => none) (fun _ => false) [3, 4, 5, 6] mayET 100000 (cFnL Try.prog) noTab 90 10 mayArgsF) mayOFk19n = true := check_less (Ky := mayOFk21y) (Kn := mayOFk21n) (i := ⟨1, 9223372036854775807, []⟩) (by kernel_rfl) (by kernel_rfl) (by kernel_rfl) (.inr mayOFh22) (.inr mayOFh31)
def mayOFt19 : DT := .less 8 (1) .leaf mayOFt21
theorem mayOFh19 : mayOFt19.check (okF mayFmF Try.prog noOrc (fun _ => none) (fun _ => false) [3, 4, 5, 6] mayET 100000 (cFnL Try.prog) noTab 90 10 mayArgsF) mayOFk18y = true := check_less (Ky := mayOFk19y) (Kn := mayOFk19n) (i := ⟨-9223372036854775808, 9223372036854775807, []⟩) (by kernel_rfl) (by kernel_rfl) (by kernel_rfl) (.inr mayOFh20) (.inr mayOFh21)
theorem mayOFh32 : DT.leaf.check (okF mayFmF Try.prog noOrc (fun _ => none) (fun _ => false) [3, 4, 5, 6] mayET 100000 (cFnL Try.prog) noTab 90 10 mayArgsF) mayOFk18n = true := check_leaf (by kernel_rfl)
def mayOFt18 : DT := .less 7 (4) mayOFt19 .leaf
theorem mayOFh18 : mayOFt18.check (okF mayFmF Try.prog noOrc (fun _ => none) (fun _ => false) [3, 4, 5, 6] mayET 100000 (cFnL Try.prog) noTab 90 10 mayArgsF) mayOFk16n = true := check_less (Ky := mayOFk18y) (Kn := mayOFk18n) (i := ⟨0, 9223372036854775807, []⟩) (by kernel_rfl) (by kernel_rfl) (by kernel_rfl) (.inr mayOFh19) (.inr mayOFh32)
def mayOFt16 : DT := .less 7 (0) .leaf mayOFt18
theorem mayOFh16 : mayOFt16.check (okF mayFmF Try.prog noOrc (fun _ => none) (fun _ => false) [3, 4, 5, 6] mayET 100000 (cFnL Try.prog) noTab 90 10 mayArgsF) mayOFk15y = true := check_less (Ky := mayOFk16y) (Kn := mayOFk16n) (i := ⟨-9223372036854775808, 9223372036854775807, []⟩) (by kernel_rfl) (by kernel_rfl) (by kernel_rfl) (.inr mayOFh17) (.inr mayOFh18)
def mayOFk33y : KB := mayOFk15n.put 0 ⟨2, 2, []⟩
def mayOFk33n : KB := mayOFk15n.put 0 ⟨3, 7, []⟩
def mayOFk34y : KB := mayOFk33y.put 7 ⟨-9223372036854775808, -1, []⟩
def mayOFk34n : KB := mayOFk33y.put 7 ⟨0, 9223372036854775807, []⟩
theorem mayOFh35 : DT.leaf.check (okF mayFmF Try.prog noOrc (fun _ => none) (fun _ => false) [3, 4, 5, 6] mayET 100000 (cFnL Try.prog) noTab 90 10 mayArgsF) mayOFk34y = true := check_leaf (by kernel_rfl)
def mayOFk36y : KB := mayOFk34n.put 7 ⟨0, 3, []⟩
def mayOFk36n : KB := mayOFk34n.put 7 ⟨4, 9223372036854775807, []⟩
def mayOFk37y : KB := mayOFk36y.put 8 ⟨-9223372036854775808, 0, []⟩
def mayOFk37n : KB := mayOFk36y.put 8 ⟨1, 9223372036854775807, []⟩
theorem mayOFh38 : DT.leaf.check (okF mayFmF Try.prog noOrc (fun _ => none) (fun _ => false) [3, 4, 5, 6] mayET 100000 (cFnL Try.prog) noTab 90 10 mayArgsF) mayOFk37y = true := check_leaf (by kernel_rfl)
def mayOFk39y : KB := mayOFk37n.put 8 ⟨1, 1048576, []⟩
def mayOFk39n : KB := mayOFk37n.put 8 ⟨1048577, 9223372036854775807, []⟩
def mayOFk40y : KB := mayOFk39y.put 1005 ⟨0, 0, []⟩
def mayOFk40n : KB := mayOFk39y.put 1005 ⟨1, 10000, []⟩
theorem mayOFh41 : DT.leaf.check (okF mayFmF Try.prog noOrc (fun _ => none) (fun _ => false) [3, 4, 5, 6] mayET 100000 (cFnL Try.prog) noTab 90 10 mayArgsF) mayOFk40y = true := check_leaf (by kernel_rfl)
def mayOFk42y : KB := mayOFk40n.put 1005 ⟨1, 16, []⟩
def mayOFk42n : KB := mayOFk40n.put 1005 ⟨17, 10000, []⟩
def mayOFk43y : KB := mayOFk42y.put 1006 ⟨0, 0, []⟩
def mayOFk43n : KB := mayOFk42y.put 1006 ⟨1, 10000, []⟩
theorem mayOFh44 : DT.leaf.check (okF mayFmF Try.prog noOrc (fun _ => none) (fun _ => false) [3, 4, 5, 6] mayET 100000 (cFnL Try.prog) noTab 90 10 mayArgsF) mayOFk43y = true := check_leaf (by kernel_rfl)
def mayOFk45y : KB := mayOFk43n.put 1006 ⟨1, 16, []⟩
def mayOFk45n : KB := mayOFk43n.put 1006 ⟨17, 10000, []⟩
def mayOFk46y : KB := mayOFk45y.put 9 ⟨0, 0, []⟩
def mayOFk46n : KB := mayOFk45y.put 9 ⟨-9223372036854775808, 9223372036854775807, [0]⟩
def mayOFk47y : KB := mayOFk46y.put 11 ⟨0, 0, []⟩
def mayOFk47n : KB := mayOFk46y.put 11 ⟨-9223372036854775808, 9223372036854775807, [0]⟩
theorem mayOFh48 : DT.leaf.check (okF mayFmF Try.prog noOrc (fun _ => none) (fun _ => false) [3, 4, 5, 6] mayET 100000 (cFnL Try.prog) noTab 90 10 mayArgsF) mayOFk47y = true := check_leaf (by kernel_rfl)
theorem mayOFh49 : DT.leaf.check (okF mayFmF Try.prog noOrc (fun _ => none) (fun _ => false) [3, 4, 5, 6] mayET 100000 (cFnL Try.prog) noTab 90 10 mayArgsF) mayOFk47n = true := check_leaf (by kernel_rfl)
def mayOFt47 : DT := .same 11 (0) .leaf .leaf
theorem mayOFh47 : mayOFt47.check (okF mayFmF Try.prog noOrc (fun _ => none) (fun _ => false) [3, 4, 5, 6] mayET 100000 (cFnL Try.prog) noTab 90 10 mayArgsF) mayOFk46y = true := check_same (Ky := mayOFk47y) (Kn := mayOFk47n) (i := ⟨-9223372036854775808, 9223372036854775807, []⟩) (by kernel_rfl) (by kernel_rfl) (by kernel_rfl) (.inr mayOFh48) (.inr mayOFh49)
theorem mayOFh50 : DT.leaf.check (okF mayFmF Try.prog noOrc (fun _ => none) (fun _ => false) [3, 4, 5, 6] mayET 100000 (cFnL Try.prog) noTab 90 10 mayArgsF) mayOFk46n = true := check_leaf (by kernel_rfl)
def mayOFt46 : DT := .same 9 (0) mayOFt47 .leaf
theorem mayOFh46 : mayOFt46.check (okF mayFmF Try.prog noOrc (fun _ => none) (fun _ => false) [3, 4, 5, 6] mayET 100000 (cFnL Try.prog) noTab 90 10 mayArgsF) mayOFk45y = true := check_same (Ky := mayOFk46y) (Kn := mayOFk46n) (i := ⟨-9223372036854775808, 9223372036854775807, []⟩) (by kernel_rfl) (by kernel_rfl) (by kernel_rfl) (.inr mayOFh47) (.inr mayOFh50)
theorem mayOFh51 : DT.leaf.check (okF mayFmF Try.prog noOrc (fun _ => none) (fun _ => false) [3, 4, 5, 6] mayET 100000 (cFnL Try.prog) noTab 90 10 mayArgsF) mayOFk45n = true := check_leaf (by kernel_rfl)
def mayOFt45 : DT := .less 1006 (17) mayOFt46 .leaf
theorem mayOFh45 : mayOFt45.check (okF mayFmF Try.prog noOrc (fun _ => none) (fun _ => false) [3, 4, 5, 6] mayET 100000 (cFnL Try.prog) noTab 90 10 mayArgsF) mayOFk43n = true := check_less (Ky := mayOFk45y) (Kn := mayOFk45n) (i := ⟨1, 10000, []⟩) (by kernel_rfl) (by kernel_rfl) (by kernel_rfl) (.inr mayOFh46) (.inr mayOFh51)
def mayOFt43 : DT := .less 1006 (1) .leaf mayOFt45
theorem mayOFh43 : mayOFt43.check (okF mayFmF Try.prog noOrc (fun _ => none) (fun _ => false) [3, 4, 5, 6] mayET 100000 (cFnL Try.prog) noTab 90 10 mayArgsF) mayOFk42y = true := check_less (Ky := mayOFk43y) (Kn := mayOFk43n) (i := ⟨0, 10000, []⟩) (by kernel_rfl) (by kernel_rfl) (by kernel_rfl) (.inr mayOFh44) (.inr mayOFh45)
theorem mayOFh52 : DT.leaf.check (okF mayFmF Try.prog noOrc (fun _ => none) (fun _ => false) [3, 4, 5, 6] mayET 100000 (cFnL Try.prog) noTab 90 10 mayArgsF) mayOFk42n = true := check_leaf (by kernel_rfl)
def mayOFt42 : DT := .less 1005 (17) mayOFt43 .leaf
theorem mayOFh42 : mayOFt42.check (okF mayFmF Try.prog noOrc (fun _ => none) (fun _ => false) [3, 4, 5, 6] mayET 100000 (cFnL Try.prog) noTab 90 10 mayArgsF) mayOFk40n = true := check_less (Ky := mayOFk42y) (Kn := mayOFk42n) (i := ⟨1, 10000, []⟩) (by kernel_rfl) (by kernel_rfl) (by kernel_rfl) (.inr mayOFh43) (.inr mayOFh52)
def mayOFt40 : DT := .less 1005 (1) .leaf mayOFt42
theorem mayOFh40 : mayOFt40.check (okF mayFmF Try.prog noOrc (fun _ => none) (fun _ => false) [3, 4, 5, 6] mayET 100000 (cFnL Try.prog) noTab 90 10 mayArgsF) mayOFk39y = true := check_less (Ky := mayOFk40y) (Kn := mayOFk40n) (i := ⟨0, 10000, []⟩) (by kernel_rfl) (by kernel_rfl) (by kernel_rfl) (.inr mayOFh41) (.inr mayOFh42)
theorem mayOFh53 : DT.leaf.check (okF mayFmF Try.prog noOrc (fun _ => none) (fun _ => false) [3, 4, 5, 6] mayET 100000 (cFnL Try.prog) noTab 90 10 mayArgsF) mayOFk39n = true := check_leaf (by kernel_rfl)
def mayOFt39 : DT := .less 8 (1048577) mayOFt40 .leaf
theorem mayOFh39 : mayOFt39.check (okF mayFmF Try.prog noOrc (fun _ => none) (fun _ => false) [3, 4, 5, 6] mayET 100000 (cFnL Try.prog) noTab 90 10 mayArgsF) mayOFk37n = true := check_less (Ky := mayOFk39y) (Kn := mayOFk39n) (i := ⟨1, 9223372036854775807, []⟩) (by kernel_rfl) (by kernel_rfl) (by kernel_rfl) (.inr mayOFh40) (.inr mayOFh53)
def mayOFt37 : DT := .less 8 (1) .leaf mayOFt39
theorem mayOFh37 : mayOFt37.check (okF mayFmF Try.prog noOrc (fun _ => none) (fun _ => false) [3, 4, 5, 6] mayET 100000 (cFnL Try.prog) noTab 90 10 mayArgsF) mayOFk36y = true := check_less (Ky := mayOFk37y) (Kn := mayOFk37n) (i := ⟨-9223372036854775808, 9223372036854775807, []⟩) (by kernel_rfl) (by kernel_rfl) (by kernel_rfl) (.inr mayOFh38) (.inr mayOFh39)
theorem mayOFh54 : DT.leaf.check (okF mayFmF Try.prog noOrc (fun _ => none) (fun _ => false) [3, 4, 5, 6] mayET 100000 (cFnL Try.prog) noTab 90 10 mayArgsF) mayOFk36n = true := check_leaf (by kernel_rfl)
def mayOFt36 : DT := .less 7 (4) mayOFt37 .leaf
theorem mayOFh36 : mayOFt36.check (okF mayFmF Try.prog noOrc (fun _ => none) (fun _ => false) [3, 4, 5, 6] mayET 100000 (cFnL Try.prog) noTab 90 10 mayArgsF) mayOFk34n = true := check_less (Ky := mayOFk36y) (Kn := mayOFk36n) (i := ⟨0, 9223372036854775807, []⟩) (by kernel_rfl) (by kernel_rfl) (by kernel_rfl) (.inr mayOFh37) (.inr mayOFh54)
def mayOFt34 : DT := .less 7 (0) .leaf mayOFt36
theorem mayOFh34 : mayOFt34.check (okF mayFmF Try.prog noOrc (fun _ => none) (fun _ => false) [3, 4, 5, 6] mayET 100000 (cFnL Try.prog) noTab 90 10 mayArgsF) mayOFk33y = true := check_less (Ky := mayOFk34y) (Kn := mayOFk34n) (i := ⟨-9223372036854775808, 9223372036854775807, []⟩) (by kernel_rfl) (by kernel_rfl) (by kernel_rfl) (.inr mayOFh35) (.inr mayOFh36)
def mayOFk55y : KB := mayOFk33n.put 0 ⟨3, 3, []⟩
def mayOFk55n : KB := mayOFk33n.put 0 ⟨4, 7, []⟩
def mayOFk56y : KB := mayOFk55y.put 7 ⟨-9223372036854775808, -1, []⟩
def mayOFk56n : KB := mayOFk55y.put 7 ⟨0, 9223372036854775807, []⟩
theorem mayOFh57 : DT.leaf.check (okF mayFmF Try.prog noOrc (fun _ => none) (fun _ => false) [3, 4, 5, 6] mayET 100000 (cFnL Try.prog) noTab 90 10 mayArgsF) mayOFk56y = true := check_leaf (by kernel_rfl)
def mayOFk58y : KB := mayOFk56n.put 7 ⟨0, 3, []⟩
def mayOFk58n : KB := mayOFk56n.put 7 ⟨4, 9223372036854775807, []⟩
def mayOFk59y : KB := mayOFk58y.put 8 ⟨-9223372036854775808, 0, []⟩
def mayOFk59n : KB := mayOFk58y.put 8 ⟨1, 9223372036854775807, []⟩
theorem mayOFh60 : DT.leaf.check (okF mayFmF Try.prog noOrc (fun _ => none) (fun _ => false) [3, 4, 5, 6] mayET 100000 (cFnL Try.prog) noTab 90 10 mayArgsF) mayOFk59y = true := check_leaf (by kernel_rfl)
def mayOFk61y : KB := mayOFk59n.put 8 ⟨1, 1048576, []⟩
def mayOFk61n : KB := mayOFk59n.put 8 ⟨1048577, 9223372036854775807, []⟩
def mayOFk62y : KB := mayOFk61y.put 7 ⟨0, 0, []⟩
def mayOFk62n : KB := mayOFk61y.put 7 ⟨1, 3, []⟩
theorem mayOFh63 : DT.leaf.check (okF mayFmF Try.prog noOrc (fun _ => none) (fun _ => false) [3, 4, 5, 6] mayET 100000 (cFnL Try.prog) noTab 90 10 mayArgsF) mayOFk62y = true := check_leaf (by kernel_rfl)
def mayOFk64y : KB := mayOFk62n.put 9 ⟨-9223372036854775808, 0, []⟩
def mayOFk64n : KB := mayOFk62n.put 9 ⟨1, 9223372036854775807, []⟩
theorem mayOFh65 : DT.leaf.check (okF mayFmF Try.prog noOrc (fun _ => none) (fun _ => false) [3, 4, 5, 6] mayET 100000 (cFnL Try.prog) noTab 90 10 mayArgsF) mayOFk64y = true := check_leaf (by kernel_rfl)
def mayOFk66y : KB := mayOFk64n.put 9 ⟨1, 1024, []⟩
def mayOFk66n : KB := mayOFk64n.put 9 ⟨1025, 9223372036854775807, []⟩
def mayOFk67y : KB := mayOFk66y.put 1005 ⟨0, 0, []⟩
def mayOFk67n : KB := mayOFk66y.put 1005 ⟨1, 10000, []⟩
def mayOFk68y : KB := mayOFk67y.put 1006 ⟨0, 0, []⟩
def mayOFk68n : KB := mayOFk67y.put 1006 ⟨1, 10000, []⟩
def mayOFk69y : KB := mayOFk68y.put 11 ⟨0, 0, []⟩
def mayOFk69n : KB := mayOFk68y.put 11 ⟨-9223372036854775808, 9223372036854775807, [0]⟩
theorem mayOFh70 : DT.leaf.check (okF mayFmF Try.prog noOrc (fun _ => none) (fun _ => false) [3, 4, 5, 6] mayET 100000 (cFnL Try.prog) noTab 90 10 mayArgsF) mayOFk69y = true := check_leaf (by kernel_rfl)
theorem mayOFh71 : DT.leaf.check (okF mayFmF Try.prog noOrc (fun _ => none) (fun _ => false) [3, 4, 5, 6] mayET 100000 (cFnL Try.prog) noTab 90 10 mayArgsF) mayOFk69n = true := check_leaf (by kernel_rfl)
def mayOFt69 : DT := .same 11 (0) .leaf .leaf
theorem mayOFh69 : mayOFt69.check (okF mayFmF Try.prog noOrc (fun _ => none) (fun _ => false) [3, 4, 5, 6] mayET 100000 (cFnL Try.prog) noTab 90 10 mayArgsF) mayOFk68y = true := check_same (Ky := mayOFk69y) (Kn := mayOFk69n) (i := ⟨-9223372036854775808, 9223372036854775807, []⟩) (by kernel_rfl) (by kernel_rfl) (by kernel_rfl) (.inr mayOFh70) (.inr mayOFh71)
theorem mayOFh72 : DT.leaf.check (okF mayFmF Try.prog noOrc (fun _ => none) (fun _ => false) [3, 4, 5, 6] mayET 100000 (cFnL Try.prog) noTab 90 10 mayArgsF) mayOFk68n = true := check_leaf (by kernel_rfl)
def mayOFt68 : DT := .same 1006 (0) mayOFt69 .leaf
theorem mayOFh68 : mayOFt68.check (okF mayFmF Try.prog noOrc (fun _ => none) (fun _ => false) [3, 4, 5, 6] mayET 100000 (cFnL Try.prog) noTab 90 10 mayArgsF) mayOFk67y = true := check_same (Ky := mayOFk68y) (Kn := mayOFk68n) (i := ⟨0, 10000, []⟩) (by kernel_rfl) (by kernel_rfl) (by kernel_rfl) (.inr mayOFh69) (.inr mayOFh72)
theorem mayOFh73 : DT.leaf.check (okF mayFmF Try.prog noOrc (fun _ => none) (fun _ => false) [3, 4, 5, 6] mayET 100000 (cFnL Try.prog) noTab 90 10 mayArgsF) mayOFk67n = true := check_leaf (by kernel_rfl)
def mayOFt67 : DT := .same 1005 (0) mayOFt68 .leaf
theorem mayOFh67 : mayOFt67.check (okF mayFmF Try.prog noOrc (fun _ => none) (fun _ => false) [3, 4, 5, 6] mayET 100000 (cFnL Try.prog) noTab 90 10 mayArgsF) mayOFk66y = true := check_same (Ky := mayOFk67y) (Kn := mayOFk67n) (i := ⟨0, 10000, []⟩) (by kernel_rfl) (by kernel_rfl) (by kernel_rfl) (.inr mayOFh68) (.inr mayOFh73)
theorem mayOFh74 : DT.leaf.check (okF mayFmF Try.prog noOrc (fun _ => none) (fun _ => false) [3, 4, 5, 6] mayET 100000 (cFnL Try.prog) noTab 90 10 mayArgsF) mayOFk66n = true := check_leaf (by kernel_rfl)
def mayOFt66 : DT := .less 9 (1025) mayOFt67 .leaf
theorem mayOFh66 : mayOFt66.check (okF mayFmF Try.prog noOrc (fun _ => none) (fun _ => false) [3, 4, 5, 6] mayET 100000 (cFnL Try.prog) noTab 90 10 mayArgsF) mayOFk64n = true := check_less (Ky := mayOFk66y) (Kn := mayOFk66n) (i := ⟨1, 9223372036854775807, []⟩) (by kernel_rfl) (by kernel_rfl) (by kernel_rfl) (.inr mayOFh67) (.inr mayOFh74)
def mayOFt64 : DT := .less 9 (1) .leaf mayOFt66
theorem mayOFh64 : mayOFt64.check (okF mayFmF Try.prog noOrc (fun _ => none) (fun _ => false) [3, 4, 5, 6] mayET 100000 (cFnL Try.prog) noTab 90 10 mayArgsF) mayOFk62n = true := check_less (Ky := mayOFk64y) (Kn := mayOFk64n) (i := ⟨-9223372036854775808, 9223372036854775807, []⟩) (by kernel_rfl) (by kernel_rfl) (by kernel_rfl) (.inr mayOFh65) (.inr mayOFh66)
def mayOFt62 : DT := .same 7 (0) .leaf mayOFt64
theorem mayOFh62 : mayOFt62.check (okF mayFmF Try.prog noOrc (fun _ => none) (fun _ => false) [3, 4, 5, 6] mayET 100000 (cFnL Try.prog) noTab 90 10 mayArgsF) mayOFk61y = true := check_same (Ky := mayOFk62y) (Kn := mayOFk62n) (i := ⟨0, 3, []⟩) (by kernel_rfl) (by kernel_rfl) (by kernel_rfl) (.inr mayOFh63) (.inr mayOFh64)
theorem mayOFh75 : DT.leaf.check (okF mayFmF Try.prog noOrc (fun _ => none) (fun _ => false) [3, 4, 5, 6] mayET 100000 (cFnL Try.prog) noTab 90 10 mayArgsF) mayOFk61n = true := check_leaf (by kernel_rfl)
def mayOFt61 : DT := .less 8 (1048577) mayOFt62 .leaf
theorem mayOFh61 : mayOFt61.check (okF mayFmF Try.prog noOrc (fun _ => none) (fun _ => false) [3, 4, 5, 6] mayET 100000 (cFnL Try.prog) noTab 90 10 mayArgsF) mayOFk59n = true := check_less (Ky := mayOFk61y) (Kn := mayOFk61n) (i := ⟨1, 9223372036854775807, []⟩) (by kernel_rfl) (by kernel_rfl) (by kernel_rfl) (.inr mayOFh62) (.inr mayOFh75)
def mayOFt59 : DT := .less 8 (1) .leaf mayOFt61
theorem mayOFh59 : mayOFt59.check (okF mayFmF Try.prog noOrc (fun _ => none) (fun _ => false) [3, 4, 5, 6] mayET 100000 (cFnL Try.prog) noTab 90 10 mayArgsF) mayOFk58y = true := check_less (Ky := mayOFk59y) (Kn := mayOFk59n) (i := ⟨-9223372036854775808, 9223372036854775807, []⟩) (by kernel_rfl) (by kernel_rfl) (by kernel_rfl) (.inr mayOFh60) (.inr mayOFh61)
theorem mayOFh76 : DT.leaf.check (okF mayFmF Try.prog noOrc (fun _ => none) (fun _ => false) [3, 4, 5, 6] mayET 100000 (cFnL Try.prog) noTab 90 10 mayArgsF) mayOFk58n = true := check_leaf (by kernel_rfl)
def mayOFt58 : DT := .less 7 (4) mayOFt59 .leaf
theorem mayOFh58 : mayOFt58.check (okF mayFmF Try.prog noOrc (fun _ => none) (fun _ => false) [3, 4, 5, 6] mayET 100000 (cFnL Try.prog) noTab 90 10 mayArgsF) mayOFk56n = true := check_less (Ky := mayOFk58y) (Kn := mayOFk58n) (i := ⟨0, 9223372036854775807, []⟩) (by kernel_rfl) (by kernel_rfl) (by kernel_rfl) (.inr mayOFh59) (.inr mayOFh76)
def mayOFt56 : DT := .less 7 (0) .leaf mayOFt58
theorem mayOFh56 : mayOFt56.check (okF mayFmF Try.prog noOrc (fun _ => none) (fun _ => false) [3, 4, 5, 6] mayET 100000 (cFnL Try.prog) noTab 90 10 mayArgsF) mayOFk55y = true := check_less (Ky := mayOFk56y) (Kn := mayOFk56n) (i := ⟨-9223372036854775808, 9223372036854775807, []⟩) (by kernel_rfl) (by kernel_rfl) (by kernel_rfl) (.inr mayOFh57) (.inr mayOFh58)
def mayOFk77y : KB := mayOFk55n.put 0 ⟨4, 4, []⟩
def mayOFk77n : KB := mayOFk55n.put 0 ⟨5, 7, []⟩
def mayOFk78y : KB := mayOFk77y.put 11 ⟨-9223372036854775808, 0, []⟩
def mayOFk78n : KB := mayOFk77y.put 11 ⟨1, 9223372036854775807, []⟩
theorem mayOFh79 : DT.leaf.check (okF mayFmF Try.prog noOrc (fun _ => none) (fun _ => false) [3, 4, 5, 6] mayET 100000 (cFnL Try.prog) noTab 90 10 mayArgsF) mayOFk78y = true := check_leaf (by kernel_rfl)
def mayOFk80y : KB := mayOFk78n.put 11 ⟨1, 1099511627776, []⟩
def mayOFk80n : KB := mayOFk78n.put 11 ⟨1099511627777, 9223372036854775807, []⟩
def mayOFk81y : KB := mayOFk80y.put 1005 ⟨0, 0, []⟩
def mayOFk81n : KB := mayOFk80y.put 1005 ⟨1, 10000, []⟩
def mayOFk82y : KB := mayOFk81y.put 1006 ⟨0, 0, []⟩
def mayOFk82n : KB := mayOFk81y.put 1006 ⟨1, 10000, []⟩
def mayOFk83y : KB := mayOFk82y.put 7 ⟨0, 0, []⟩
def mayOFk83n : KB := mayOFk82y.put 7 ⟨-9223372036854775808, 9223372036854775807, [0]⟩
def mayOFk84y : KB := mayOFk83y.put 8 ⟨0, 0, []⟩
def mayOFk84n : KB := mayOFk83y.put 8 ⟨-9223372036854775808, 9223372036854775807, [0]⟩
def mayOFk85y : KB := mayOFk84y.put 9 ⟨0, 0, []⟩
def mayOFk85n : KB := mayOFk84y.put 9 ⟨-9223372036854775808, 9223372036854775807, [0]⟩
theorem mayOFh86 : DT.leaf.check (okF mayFmF Try.prog noOrc (fun _ => none) (fun _ => false) [3, 4, 5, 6] mayET 100000 (cFnL Try.prog) noTab 90 10 mayArgsF) mayOFk85y = true := check_leaf (by kernel_rfl)
theorem mayOFh87 : DT.leaf.check (okF mayFmF Try.prog noOrc (fun _ => none) (fun _ => false) [3, 4, 5, 6] mayET 100000 (cFnL Try.prog) noTab 90 10 mayArgsF) mayOFk85n = true := check_leaf (by kernel_rfl)
def mayOFt85 : DT := .same 9 (0) .leaf .leaf
theorem mayOFh85 : mayOFt85.check (okF mayFmF Try.prog noOrc (fun _ => none) (fun _ => false) [3, 4, 5, 6] mayET 100000 (cFnL Try.prog) noTab 90 10 mayArgsF) mayOFk84y = true := check_same (Ky := mayOFk85y) (Kn := mayOFk85n) (i := ⟨-9223372036854775808, 9223372036854775807, []⟩) (by kernel_rfl) (by kernel_rfl) (by kernel_rfl) (.inr mayOFh86) (.inr mayOFh87)
theorem mayOFh88 : DT.leaf.check (okF mayFmF Try.prog noOrc (fun _ => none) (fun _ => false) [3, 4, 5, 6] mayET 100000 (cFnL Try.prog) noTab 90 10 mayArgsF) mayOFk84n = true := check_leaf (by kernel_rfl)
def mayOFt84 : DT := .same 8 (0) mayOFt85 .leaf
theorem mayOFh84 : mayOFt84.check (okF mayFmF Try.prog noOrc (fun _ => none) (fun _ => false) [3, 4, 5, 6] mayET 100000 (cFnL Try.prog) noTab 90 10 mayArgsF) mayOFk83y = true := check_same (Ky := mayOFk84y) (Kn := mayOFk84n) (i := ⟨-9223372036854775808, 9223372036854775807, []⟩) (by kernel_rfl) (by kernel_rfl) (by kernel_rfl) (.inr mayOFh85) (.inr mayOFh88)
theorem mayOFh89 : DT.leaf.check (okF mayFmF Try.prog noOrc (fun _ => none) (fun _ => false) [3, 4, 5, 6] mayET 100000 (cFnL Try.prog) noTab 90 10 mayArgsF) mayOFk83n = true := check_leaf (by kernel_rfl)
def mayOFt83 : DT := .same 7 (0) mayOFt84 .leaf
theorem mayOFh83 : mayOFt83.check (okF mayFmF Try.prog noOrc (fun _ => none) (fun _ => false) [3, 4, 5, 6] mayET 100000 (cFnL Try.prog) noTab 90 10 mayArgsF) mayOFk82y = true := check_same (Ky := mayOFk83y) (Kn := mayOFk83n) (i := ⟨-9223372036854775808, 9223372036854775807, []⟩) (by kernel_rfl) (by kernel_rfl) (by kernel_rfl) (.inr mayOFh84) (.inr mayOFh89)
theorem mayOFh90 : DT.leaf.check (okF mayFmF Try.prog noOrc (fun _ => none) (fun _ => false) [3, 4, 5, 6] mayET 100000 (cFnL Try.prog) noTab 90 10 mayArgsF) mayOFk82n = true := check_leaf (by kernel_rfl)
def mayOFt82 : DT := .same 1006 (0) mayOFt83 .leaf
theorem mayOFh82 : mayOFt82.check (okF mayFmF Try.prog noOrc (fun _ => none) (fun _ => false) [3, 4, 5, 6] mayET 100000 (cFnL Try.prog) noTab 90 10 mayArgsF) mayOFk81y = true := check_same (Ky := mayOFk82y) (Kn := mayOFk82n) (i := ⟨0, 10000, []⟩) (by kernel_rfl) (by kernel_rfl) (by kernel_rfl) (.inr mayOFh83) (.inr mayOFh90)
theorem mayOFh91 : DT.leaf.check (okF mayFmF Try.prog noOrc (fun _ => none) (fun _ => false) [3, 4, 5, 6] mayET 100000 (cFnL Try.prog) noTab 90 10 mayArgsF) mayOFk81n = true := check_leaf (by kernel_rfl)
def mayOFt81 : DT := .same 1005 (0) mayOFt82 .leaf
theorem mayOFh81 : mayOFt81.check (okF mayFmF Try.prog noOrc (fun _ => none) (fun _ => false) [3, 4, 5, 6] mayET 100000 (cFnL Try.prog) noTab 90 10 mayArgsF) mayOFk80y = true := check_same (Ky := mayOFk81y) (Kn := mayOFk81n) (i := ⟨0, 10000, []⟩) (by kernel_rfl) (by kernel_rfl) (by kernel_rfl) (.inr mayOFh82) (.inr mayOFh91)
theorem mayOFh92 : DT.leaf.check (okF mayFmF Try.prog noOrc (fun _ => none) (fun _ => false) [3, 4, 5, 6] mayET 100000 (cFnL Try.prog) noTab 90 10 mayArgsF) mayOFk80n = true := check_leaf (by kernel_rfl)
def mayOFt80 : DT := .less 11 (1099511627777) mayOFt81 .leaf
theorem mayOFh80 : mayOFt80.check (okF mayFmF Try.prog noOrc (fun _ => none) (fun _ => false) [3, 4, 5, 6] mayET 100000 (cFnL Try.prog) noTab 90 10 mayArgsF) mayOFk78n = true := check_less (Ky := mayOFk80y) (Kn := mayOFk80n) (i := ⟨1, 9223372036854775807, []⟩) (by kernel_rfl) (by kernel_rfl) (by kernel_rfl) (.inr mayOFh81) (.inr mayOFh92)
def mayOFt78 : DT := .less 11 (1) .leaf mayOFt80
theorem mayOFh78 : mayOFt78.check (okF mayFmF Try.prog noOrc (fun _ => none) (fun _ => false) [3, 4, 5, 6] mayET 100000 (cFnL Try.prog) noTab 90 10 mayArgsF) mayOFk77y = true := check_less (Ky := mayOFk78y) (Kn := mayOFk78n) (i := ⟨-9223372036854775808, 9223372036854775807, []⟩) (by kernel_rfl) (by kernel_rfl) (by kernel_rfl) (.inr mayOFh79) (.inr mayOFh80)
def mayOFk93y : KB := mayOFk77n.put 0 ⟨5, 5, []⟩
def mayOFk93n : KB := mayOFk77n.put 0 ⟨6, 7, []⟩
def mayOFk94y : KB := mayOFk93y.put 1005 ⟨0, 0, []⟩
def mayOFk94n : KB := mayOFk93y.put 1005 ⟨1, 10000, []⟩
def mayOFk95y : KB := mayOFk94y.put 1006 ⟨0, 0, []⟩
def mayOFk95n : KB := mayOFk94y.put 1006 ⟨1, 10000, []⟩
def mayOFk96y : KB := mayOFk95y.put 7 ⟨0, 0, []⟩
def mayOFk96n : KB := mayOFk95y.put 7 ⟨-9223372036854775808, 9223372036854775807, [0]⟩
def mayOFk97y : KB := mayOFk96y.put 8 ⟨0, 0, []⟩
def mayOFk97n : KB := mayOFk96y.put 8 ⟨-9223372036854775808, 9223372036854775807, [0]⟩
def mayOFk98y : KB := mayOFk97y.put 9 ⟨0, 0, []⟩
def mayOFk98n : KB := mayOFk97y.put 9 ⟨-9223372036854775808, 9223372036854775807, [0]⟩
def mayOFk99y : KB := mayOFk98y.put 11 ⟨0, 0, []⟩
def mayOFk99n : KB := mayOFk98y.put 11 ⟨-9223372036854775808, 9223372036854775807, [0]⟩
theorem mayOFh100 : DT.leaf.check (okF mayFmF Try.prog noOrc (fun _ => none) (fun _ => false) [3, 4, 5, 6] mayET 100000 (cFnL Try.prog) noTab 90 10 mayArgsF) mayOFk99y = true := check_leaf (by kernel_rfl)
theorem mayOFh101 : DT.leaf.check (okF mayFmF Try.prog noOrc (fun _ => none) (fun _ => false) [3, 4, 5, 6] mayET 100000 (cFnL Try.prog) noTab 90 10 mayArgsF) mayOFk99n = true := check_leaf (by kernel_rfl)
def mayOFt99 : DT := .same 11 (0) .leaf .leaf
theorem mayOFh99 : mayOFt99.check (okF mayFmF Try.prog noOrc (fun _ => none) (fun _ => false) [3, 4, 5, 6] mayET 100000 (cFnL Try.prog) noTab 90 10 mayArgsF) mayOFk98y = true := check_same (Ky := mayOFk99y) (Kn := mayOFk99n) (i := ⟨-9223372036854775808, 9223372036854775807, []⟩) (by kernel_rfl) (by kernel_rfl) (by kernel_rfl) (.inr mayOFh100) (.inr mayOFh101)
theorem mayOFh102 : DT.leaf.check (okF mayFmF Try.prog noOrc (fun _ => none) (fun _ => false) [3, 4, 5, 6] mayET 100000 (cFnL Try.prog) noTab 90 10 mayArgsF) mayOFk98n = true := check_leaf (by kernel_rfl)
def mayOFt98 : DT := .same 9 (0) mayOFt99 .leaf
theorem mayOFh98 : mayOFt98.check (okF mayFmF Try.prog noOrc (fun _ => none) (fun _ => false) [3, 4, 5, 6] mayET 100000 (cFnL Try.prog) noTab 90 10 mayArgsF) mayOFk97y = true := check_same (Ky := mayOFk98y) (Kn := mayOFk98n) (i := ⟨-9223372036854775808, 9223372036854775807, []⟩) (by kernel_rfl) (by kernel_rfl) (by kernel_rfl) (.inr mayOFh99) (.inr mayOFh102)
theorem mayOFh103 : DT.leaf.check (okF mayFmF Try.prog noOrc (fun _ => none) (fun _ => false) [3, 4, 5, 6] mayET 100000 (cFnL Try.prog) noTab 90 10 mayArgsF) mayOFk97n = true := check_leaf (by kernel_rfl)
def mayOFt97 : DT := .same 8 (0) mayOFt98 .leaf
theorem mayOFh97 : mayOFt97.check (okF mayFmF Try.prog noOrc (fun _ => none) (fun _ => false) [3, 4, 5, 6] mayET 100000 (cFnL Try.prog) noTab 90 10 mayArgsF) mayOFk96y = true := check_same (Ky := mayOFk97y) (Kn := mayOFk97n) (i := ⟨-9223372036854775808, 9223372036854775807, []⟩) (by kernel_rfl) (by kernel_rfl) (by kernel_rfl) (.inr mayOFh98) (.inr mayOFh103)
theorem mayOFh104 : DT.leaf.check (okF mayFmF Try.prog noOrc (fun _ => none) (fun _ => false) [3, 4, 5, 6] mayET 100000 (cFnL Try.prog) noTab 90 10 mayArgsF) mayOFk96n = true := check_leaf (by kernel_rfl)
def mayOFt96 : DT := .same 7 (0) mayOFt97 .leaf
theorem mayOFh96 : mayOFt96.check (okF mayFmF Try.prog noOrc (fun _ => none) (fun _ => false) [3, 4, 5, 6] mayET 100000 (cFnL Try.prog) noTab 90 10 mayArgsF) mayOFk95y = true := check_same (Ky := mayOFk96y) (Kn := mayOFk96n) (i := ⟨-9223372036854775808, 9223372036854775807, []⟩) (by kernel_rfl) (by kernel_rfl) (by kernel_rfl) (.inr mayOFh97) (.inr mayOFh104)
theorem mayOFh105 : DT.leaf.check (okF mayFmF Try.prog noOrc (fun _ => none) (fun _ => false) [3, 4, 5, 6] mayET 100000 (cFnL Try.prog) noTab 90 10 mayArgsF) mayOFk95n = true := check_leaf (by kernel_rfl)
def mayOFt95 : DT := .same 1006 (0) mayOFt96 .leaf
theorem mayOFh95 : mayOFt95.check (okF mayFmF Try.prog noOrc (fun _ => none) (fun _ => false) [3, 4, 5, 6] mayET 100000 (cFnL Try.prog) noTab 90 10 mayArgsF) mayOFk94y = true := check_same (Ky := mayOFk95y) (Kn := mayOFk95n) (i := ⟨0, 10000, []⟩) (by kernel_rfl) (by kernel_rfl) (by kernel_rfl) (.inr mayOFh96) (.inr mayOFh105)
theorem mayOFh106 : DT.leaf.check (okF mayFmF Try.prog noOrc (fun _ => none) (fun _ => false) [3, 4, 5, 6] mayET 100000 (cFnL Try.prog) noTab 90 10 mayArgsF) mayOFk94n = true := check_leaf (by kernel_rfl)
def mayOFt94 : DT := .same 1005 (0) mayOFt95 .leaf
theorem mayOFh94 : mayOFt94.check (okF mayFmF Try.prog noOrc (fun _ => none) (fun _ => false) [3, 4, 5, 6] mayET 100000 (cFnL Try.prog) noTab 90 10 mayArgsF) mayOFk93y = true := check_same (Ky := mayOFk94y) (Kn := mayOFk94n) (i := ⟨0, 10000, []⟩) (by kernel_rfl) (by kernel_rfl) (by kernel_rfl) (.inr mayOFh95) (.inr mayOFh106)
def mayOFk107y : KB := mayOFk93n.put 0 ⟨6, 6, []⟩
def mayOFk107n : KB := mayOFk93n.put 0 ⟨7, 7, []⟩
def mayOFk108y : KB := mayOFk107y.put 7 ⟨-9223372036854775808, -1, []⟩
def mayOFk108n : KB := mayOFk107y.put 7 ⟨0, 9223372036854775807, []⟩
theorem mayOFh109 : DT.leaf.check (okF mayFmF Try.prog noOrc (fun _ => none) (fun _ => false) [3, 4, 5, 6] mayET 100000 (cFnL Try.prog) noTab 90 10 mayArgsF) mayOFk108y = true := check_leaf (by kernel_rfl)
def mayOFk110y : KB := mayOFk108n.put 7 ⟨0, 3, []⟩
def mayOFk110n : KB := mayOFk108n.put 7 ⟨4, 9223372036854775807, []⟩
def mayOFk111y : KB := mayOFk110y.put 8 ⟨-9223372036854775808, 0, []⟩
def mayOFk111n : KB := mayOFk110y.put 8 ⟨1, 9223372036854775807, []⟩
theorem mayOFh112 : DT.leaf.check (okF mayFmF Try.prog noOrc (fun _ => none) (fun _ => false) [3, 4, 5, 6] mayET 100000 (cFnL Try.prog) noTab 90 10 mayArgsF) mayOFk111y = true := check_leaf (by kernel_rfl)
def mayOFk113y : KB := mayOFk111n.put 8 ⟨1, 1048576, []⟩
def mayOFk113n : KB := mayOFk111n.put 8 ⟨1048577, 9223372036854775807, []⟩
def mayOFk114y : KB := mayOFk113y.put 1005 ⟨0, 0, []⟩
def mayOFk114n : KB := mayOFk113y.put 1005 ⟨1, 10000, []⟩
def mayOFk115y : KB := mayOFk114y.put 1006 ⟨0, 0, []⟩
def mayOFk115n : KB := mayOFk114y.put 1006 ⟨1, 10000, []⟩
def mayOFk116y : KB := mayOFk115y.put 9 ⟨0, 0, []⟩
def mayOFk116n : KB := mayOFk115y.put 9 ⟨-9223372036854775808, 9223372036854775807, [0]⟩
def mayOFk117y : KB := mayOFk116y.put 11 ⟨0, 0, []⟩
def mayOFk117n : KB := mayOFk116y.put 11 ⟨-9223372036854775808, 9223372036854775807, [0]⟩
theorem mayOFh118 : DT.leaf.check (okF mayFmF Try.prog noOrc (fun _ => none) (fun _ => false) [3, 4, 5, 6] mayET 100000 (cFnL Try.prog) noTab 90 10 mayArgsF) mayOFk117y = true := check_leaf (by kernel_rfl)
theorem mayOFh119 : DT.leaf.check (okF mayFmF Try.prog noOrc (fun _ => none) (fun _ => false) [3, 4, 5, 6] mayET 100000 (cFnL Try.prog) noTab 90 10 mayArgsF) mayOFk117n = true := check_leaf (by kernel_rfl)
def mayOFt117 : DT := .same 11 (0) .leaf .leaf
theorem mayOFh117 : mayOFt117.check (okF mayFmF Try.prog noOrc (fun _ => none) (fun _ => false) [3, 4, 5, 6] mayET 100000 (cFnL Try.prog) noTab 90 10 mayArgsF) mayOFk116y = true := check_same (Ky := mayOFk117y) (Kn := mayOFk117n) (i := ⟨-9223372036854775808, 9223372036854775807, []⟩) (by kernel_rfl) (by kernel_rfl) (by kernel_rfl) (.inr mayOFh118) (.inr mayOFh119)
theorem mayOFh120 : DT.leaf.check (okF mayFmF Try.prog noOrc (fun _ => none) (fun _ => false) [3, 4, 5, 6] mayET 100000 (cFnL Try.prog) noTab 90 10 mayArgsF) mayOFk116n = true := check_leaf (by kernel_rfl)
def mayOFt116 : DT := .same 9 (0) mayOFt117 .leaf
theorem mayOFh116 : mayOFt116.check (okF mayFmF Try.prog noOrc (fun _ => none) (fun _ => false) [3, 4, 5, 6] mayET 100000 (cFnL Try.prog) noTab 90 10 mayArgsF) mayOFk115y = true := check_same (Ky := mayOFk116y) (Kn := mayOFk116n) (i := ⟨-9223372036854775808, 9223372036854775807, []⟩) (by kernel_rfl) (by kernel_rfl) (by kernel_rfl) (.inr mayOFh117) (.inr mayOFh120)
theorem mayOFh121 : DT.leaf.check (okF mayFmF Try.prog noOrc (fun _ => none) (fun _ => false) [3, 4, 5, 6] mayET 100000 (cFnL Try.prog) noTab 90 10 mayArgsF) mayOFk115n = true := check_leaf (by kernel_rfl)
def mayOFt115 : DT := .same 1006 (0) mayOFt116 .leaf
theorem mayOFh115 : mayOFt115.check (okF mayFmF Try.prog noOrc (fun _ => none) (fun _ => false) [3, 4, 5, 6] mayET 100000 (cFnL Try.prog) noTab 90 10 mayArgsF) mayOFk114y = true := check_same (Ky := mayOFk115y) (Kn := mayOFk115n) (i := ⟨0, 10000, []⟩) (by kernel_rfl) (by kernel_rfl) (by kernel_rfl) (.inr mayOFh116) (.inr mayOFh121)
theorem mayOFh122 : DT.leaf.check (okF mayFmF Try.prog noOrc (fun _ => none) (fun _ => false) [3, 4, 5, 6] mayET 100000 (cFnL Try.prog) noTab 90 10 mayArgsF) mayOFk114n = true := check_leaf (by kernel_rfl)
def mayOFt114 : DT := .same 1005 (0) mayOFt115 .leaf
theorem mayOFh114 : mayOFt114.check (okF mayFmF Try.prog noOrc (fun _ => none) (fun _ => false) [3, 4, 5, 6] mayET 100000 (cFnL Try.prog) noTab 90 10 mayArgsF) mayOFk113y = true := check_same (Ky := mayOFk114y) (Kn := mayOFk114n) (i := ⟨0, 10000, []⟩) (by kernel_rfl) (by kernel_rfl) (by kernel_rfl) (.inr mayOFh115) (.inr mayOFh122)
theorem mayOFh123 : DT.leaf.check (okF mayFmF Try.prog noOrc (fun _ => none) (fun _ => false) [3, 4, 5, 6] mayET 100000 (cFnL Try.prog) noTab 90 10 mayArgsF) mayOFk113n = true := check_leaf (by kernel_rfl)
def mayOFt113 : DT := .less 8 (1048577) mayOFt114 .leaf
theorem mayOFh113 : mayOFt113.check (okF mayFmF Try.prog noOrc (fun _ => none) (fun _ => false) [3, 4, 5, 6] mayET 100000 (cFnL Try.prog) noTab 90 10 mayArgsF) mayOFk111n = true := check_less (Ky := mayOFk113y) (Kn := mayOFk113n) (i := ⟨1, 9223372036854775807, []⟩) (by kernel_rfl) (by kernel_rfl) (by kernel_rfl) (.inr mayOFh114) (.inr mayOFh123)
def mayOFt111 : DT := .less 8 (1) .leaf mayOFt113
theorem mayOFh111 : mayOFt111.check (okF mayFmF Try.prog noOrc (fun _ => none) (fun _ => false) [3, 4, 5, 6] mayET 100000 (cFnL Try.prog) noTab 90 10 mayArgsF) mayOFk110y = true := check_less (Ky := mayOFk111y) (Kn := mayOFk111n) (i := ⟨-9223372036854775808, 9223372036854775807, []⟩) (by kernel_rfl) (by kernel_rfl) (by kernel_rfl) (.inr mayOFh112) (.inr mayOFh113)
theorem mayOFh124 : DT.leaf.check (okF mayFmF Try.prog noOrc (fun _ => none) (fun _ => false) [3, 4, 5, 6] mayET 100000 (cFnL Try.prog) noTab 90 10 mayArgsF) mayOFk110n = true := check_leaf (by kernel_rfl)
def mayOFt110 : DT := .less 7 (4) mayOFt111 .leaf
theorem mayOFh110 : mayOFt110.check (okF mayFmF Try.prog noOrc (fun _ => none) (fun _ => false) [3, 4, 5, 6] mayET 100000 (cFnL Try.prog) noTab 90 10 mayArgsF) mayOFk108n = true := check_less (Ky := mayOFk110y) (Kn := mayOFk110n) (i := ⟨0, 9223372036854775807, []⟩) (by kernel_rfl) (by kernel_rfl) (by kernel_rfl) (.inr mayOFh111) (.inr mayOFh124)
def mayOFt108 : DT := .less 7 (0) .leaf mayOFt110
theorem mayOFh108 : mayOFt108.check (okF mayFmF Try.prog noOrc (fun _ => none) (fun _ => false) [3, 4, 5, 6] mayET 100000 (cFnL Try.prog) noTab 90 10 mayArgsF) mayOFk107y = true := check_less (Ky := mayOFk108y) (Kn := mayOFk108n) (i := ⟨-9223372036854775808, 9223372036854775807, []⟩) (by kernel_rfl) (by kernel_rfl) (by kernel_rfl) (.inr mayOFh109) (.inr mayOFh110)
def mayOFk125y : KB := mayOFk107n.put 1005 ⟨0, 0, []⟩
def mayOFk125n : KB := mayOFk107n.put 1005 ⟨1, 10000, []⟩
def mayOFk126y : KB := mayOFk125y.put 1006 ⟨0, 0, []⟩
def mayOFk126n : KB := mayOFk125y.put 1006 ⟨1, 10000, []⟩
def mayOFk127y : KB := mayOFk126y.put 7 ⟨0, 0, []⟩
def mayOFk127n : KB := mayOFk126y.put 7 ⟨-9223372036854775808, 9223372036854775807, [0]⟩
def mayOFk128y : KB := mayOFk127y.put 8 ⟨0, 0, []⟩
def mayOFk128n : KB := mayOFk127y.put 8 ⟨-9223372036854775808, 9223372036854775807, [0]⟩
def mayOFk129y : KB := mayOFk128y.put 9 ⟨0, 0, []⟩
def mayOFk129n : KB := mayOFk128y.put 9 ⟨-9223372036854775808, 9223372036854775807, [0]⟩
def mayOFk130y : KB := mayOFk129y.put 11 ⟨0, 0, []⟩
def mayOFk130n : KB := mayOFk129y.put 11 ⟨-9223372036854775808, 9223372036854775807, [0]⟩
theorem mayOFh131 : DT.leaf.check (okF mayFmF Try.prog noOrc (fun _ => none) (fun _ => false) [3, 4, 5, 6] mayET 100000 (cFnL Try.prog) noTab 90 10 mayArgsF) mayOFk130y = true := check_leaf (by kernel_rfl)
theorem mayOFh132 : DT.leaf.check (okF mayFmF Try.prog noOrc (fun _ => none) (fun _ => false) [3, 4, 5, 6] mayET 100000 (cFnL Try.prog) noTab 90 10 mayArgsF) mayOFk130n = true := check_leaf (by kernel_rfl)
def mayOFt130 : DT := .same 11 (0) .leaf .leaf
theorem mayOFh130 : mayOFt130.check (okF mayFmF Try.prog noOrc (fun _ => none) (fun _ => false) [3, 4, 5, 6] mayET 100000 (cFnL Try.prog) noTab 90 10 mayArgsF) mayOFk129y = true := check_same (Ky := mayOFk130y) (Kn := mayOFk130n) (i := ⟨-9223372036854775808, 9223372036854775807, []⟩) (by kernel_rfl) (by kernel_rfl) (by kernel_rfl) (.inr mayOFh131) (.inr mayOFh132)
theorem mayOFh133 : DT.leaf.check (okF mayFmF Try.prog noOrc (fun _ => none) (fun _ => false) [3, 4, 5, 6] mayET 100000 (cFnL Try.prog) noTab 90 10 mayArgsF) mayOFk129n = true := check_leaf (by kernel_rfl)
def mayOFt129 : DT := .same 9 (0) mayOFt130 .leaf
theorem mayOFh129 : mayOFt129.check (okF mayFmF Try.prog noOrc (fun _ => none) (fun _ => false) [3, 4, 5, 6] mayET 100000 (cFnL Try.prog) noTab 90 10 mayArgsF) mayOFk128y = true := check_same (Ky := mayOFk129y) (Kn := mayOFk129n) (i := ⟨-9223372036854775808, 9223372036854775807, []⟩) (by kernel_rfl) (by kernel_rfl) (by kernel_rfl) (.inr mayOFh130) (.inr mayOFh133)
theorem mayOFh134 : DT.leaf.check (okF mayFmF Try.prog noOrc (fun _ => none) (fun _ => false) [3, 4, 5, 6] mayET 100000 (cFnL Try.prog) noTab 90 10 mayArgsF) mayOFk128n = true := check_leaf (by kernel_rfl)
def mayOFt128 : DT := .same 8 (0) mayOFt129 .leaf
theorem mayOFh128 : mayOFt128.check (okF mayFmF Try.prog noOrc (fun _ => none) (fun _ => false) [3, 4, 5, 6] mayET 100000 (cFnL Try.prog) noTab 90 10 mayArgsF) mayOFk127y = true := check_same (Ky := mayOFk128y) (Kn := mayOFk128n) (i := ⟨-9223372036854775808, 9223372036854775807, []⟩) (by kernel_rfl) (by kernel_rfl) (by kernel_rfl) (.inr mayOFh129) (.inr mayOFh134)
theorem mayOFh135 : DT.leaf.check (okF mayFmF Try.prog noOrc (fun _ => none) (fun _ => false) [3, 4, 5, 6] mayET 100000 (cFnL Try.prog) noTab 90 10 mayArgsF) mayOFk127n = true := check_leaf (by kernel_rfl)
def mayOFt127 : DT := .same 7 (0) mayOFt128 .leaf
theorem mayOFh127 : mayOFt127.check (okF mayFmF Try.prog noOrc (fun _ => none) (fun _ => false) [3, 4, 5, 6] mayET 100000 (cFnL Try.prog) noTab 90 10 mayArgsF) mayOFk126y = true := check_same (Ky := mayOFk127y) (Kn := mayOFk127n) (i := ⟨-9223372036854775808, 9223372036854775807, []⟩) (by kernel_rfl) (by kernel_rfl) (by kernel_rfl) (.inr mayOFh128) (.inr mayOFh135)
theorem mayOFh136 : DT.leaf.check (okF mayFmF Try.prog noOrc (fun _ => none) (fun _ => false) [3, 4, 5, 6] mayET 100000 (cFnL Try.prog) noTab 90 10 mayArgsF) mayOFk126n = true := check_leaf (by kernel_rfl)
def mayOFt126 : DT := .same 1006 (0) mayOFt127 .leaf
theorem mayOFh126 : mayOFt126.check (okF mayFmF Try.prog noOrc (fun _ => none) (fun _ => false) [3, 4, 5, 6] mayET 100000 (cFnL Try.prog) noTab 90 10 mayArgsF) mayOFk125y = true := check_same (Ky := mayOFk126y) (Kn := mayOFk126n) (i := ⟨0, 10000, []⟩) (by kernel_rfl) (by kernel_rfl) (by kernel_rfl) (.inr mayOFh127) (.inr mayOFh136)
theorem mayOFh137 : DT.leaf.check (okF mayFmF Try.prog noOrc (fun _ => none) (fun _ => false) [3, 4, 5, 6] mayET 100000 (cFnL Try.prog) noTab 90 10 mayArgsF) mayOFk125n = true := check_leaf (by kernel_rfl)
def mayOFt125 : DT := .same 1005 (0) mayOFt126 .leaf
theorem mayOFh125 : mayOFt125.check (okF mayFmF Try.prog noOrc (fun _ => none) (fun _ => false) [3, 4, 5, 6] mayET 100000 (cFnL Try.prog) noTab 90 10 mayArgsF) mayOFk107n = true := check_same (Ky := mayOFk125y) (Kn := mayOFk125n) (i := ⟨0, 10000, []⟩) (by kernel_rfl) (by kernel_rfl) (by kernel_rfl) (.inr mayOFh126) (.inr mayOFh137)
def mayOFt107 : DT := .same 0 (6) mayOFt108 mayOFt125
theorem mayOFh107 : mayOFt107.check (okF mayFmF Try.prog noOrc (fun _ => none) (fun _ => false) [3, 4, 5, 6] mayET 100000 (cFnL Try.prog) noTab 90 10 mayArgsF) mayOFk93n = true := check_same (Ky := mayOFk107y) (Kn := mayOFk107n) (i := ⟨6, 7, []⟩) (by kernel_rfl) (by kernel_rfl) (by kernel_rfl) (.inr mayOFh108) (.inr mayOFh125)
def mayOFt93 : DT := .same 0 (5) mayOFt94 mayOFt107
theorem mayOFh93 : mayOFt93.check (okF mayFmF Try.prog noOrc (fun _ => none) (fun _ => false) [3, 4, 5, 6] mayET 100000 (cFnL Try.prog) noTab 90 10 mayArgsF) mayOFk77n = true := check_same (Ky := mayOFk93y) (Kn := mayOFk93n) (i := ⟨5, 7, []⟩) (by kernel_rfl) (by kernel_rfl) (by kernel_rfl) (.inr mayOFh94) (.inr mayOFh107)
def mayOFt77 : DT := .same 0 (4) mayOFt78 mayOFt93
theorem mayOFh77 : mayOFt77.check (okF mayFmF Try.prog noOrc (fun _ => none) (fun _ => false) [3, 4, 5, 6] mayET 100000 (cFnL Try.prog) noTab 90 10 mayArgsF) mayOFk55n = true := check_same (Ky := mayOFk77y) (Kn := mayOFk77n) (i := ⟨4, 7, []⟩) (by kernel_rfl) (by kernel_rfl) (by kernel_rfl) (.inr mayOFh78) (.inr mayOFh93)
def mayOFt55 : DT := .same 0 (3) mayOFt56 mayOFt77
theorem mayOFh55 : mayOFt55.check (okF mayFmF Try.prog noOrc (fun _ => none) (fun _ => false) [3, 4, 5, 6] mayET 100000 (cFnL Try.prog) noTab 90 10 mayArgsF) mayOFk33n = true := check_same (Ky := mayOFk55y) (Kn := mayOFk55n) (i := ⟨3, 7, []⟩) (by kernel_rfl) (by kernel_rfl) (by kernel_rfl) (.inr mayOFh56) (.inr mayOFh77)
def mayOFt33 : DT := .same 0 (2) mayOFt34 mayOFt55
theorem mayOFh33 : mayOFt33.check (okF mayFmF Try.prog noOrc (fun _ => none) (fun _ => false) [3, 4, 5, 6] mayET 100000 (cFnL Try.prog) noTab 90 10 mayArgsF) mayOFk15n = true := check_same (Ky := mayOFk33y) (Kn := mayOFk33n) (i := ⟨2, 7, []⟩) (by kernel_rfl) (by kernel_rfl) (by kernel_rfl) (.inr mayOFh34) (.inr mayOFh55)
def mayOFt15 : DT := .same 0 (1) mayOFt16 mayOFt33
theorem mayOFh15 : mayOFt15.check (okF mayFmF Try.prog noOrc (fun _ => none) (fun _ => false) [3, 4, 5, 6] mayET 100000 (cFnL Try.prog) noTab 90 10 mayArgsF) mayOFk14y = true := check_same (Ky := mayOFk15y) (Kn := mayOFk15n) (i := ⟨1, 7, []⟩) (by kernel_rfl) (by kernel_rfl) (by kernel_rfl) (.inr mayOFh16) (.inr mayOFh33)
theorem mayOFh138 : DT.leaf.check (okF mayFmF Try.prog noOrc (fun _ => none) (fun _ => false) [3, 4, 5, 6] mayET 100000 (cFnL Try.prog) noTab 90 10 mayArgsF) mayOFk14n = true := check_leaf (by kernel_rfl)
def mayOFt14 : DT := .less 1004 (17) mayOFt15 .leaf
theorem mayOFh14 : mayOFt14.check (okF mayFmF Try.prog noOrc (fun _ => none) (fun _ => false) [3, 4, 5, 6] mayET 100000 (cFnL Try.prog) noTab 90 10 mayArgsF) mayOFk12n = true := check_less (Ky := mayOFk14y) (Kn := mayOFk14n) (i := ⟨1, 10000, []⟩) (by kernel_rfl) (by kernel_rfl) (by kernel_rfl) (.inr mayOFh15) (.inr mayOFh138)
def mayOFt12 : DT := .less 1004 (1) .leaf mayOFt14
theorem mayOFh12 : mayOFt12.check (okF mayFmF Try.prog noOrc (fun _ => none) (fun _ => false) [3, 4, 5, 6] mayET 100000 (cFnL Try.prog) noTab 90 10 mayArgsF) mayOFk11y = true := check_less (Ky := mayOFk12y) (Kn := mayOFk12n) (i := ⟨0, 10000, []⟩) (by kernel_rfl) (by kernel_rfl) (by kernel_rfl) (.inr mayOFh13) (.inr mayOFh14)
theorem mayOFh139 : DT.leaf.check (okF mayFmF Try.prog noOrc (fun _ => none) (fun _ => false) [3, 4, 5, 6] mayET 100000 (cFnL Try.prog) noTab 90 10 mayArgsF) mayOFk11n = true := check_leaf (by kernel_rfl)
def mayOFt11 : DT := .less 1003 (17) mayOFt12 .leaf
theorem mayOFh11 : mayOFt11.check (okF mayFmF Try.prog noOrc (fun _ => none) (fun _ => false) [3, 4, 5, 6] mayET 100000 (cFnL Try.prog) noTab 90 10 mayArgsF) mayOFk9n = true := check_less (Ky := mayOFk11y) (Kn := mayOFk11n) (i := ⟨1, 10000, []⟩) (by kernel_rfl) (by kernel_rfl) (by kernel_rfl) (.inr mayOFh12) (.inr mayOFh139)
def mayOFt9 : DT := .less 1003 (1) .leaf mayOFt11
theorem mayOFh9 : mayOFt9.check (okF mayFmF Try.prog noOrc (fun _ => none) (fun _ => false) [3, 4, 5, 6] mayET 100000 (cFnL Try.prog) noTab 90 10 mayArgsF) mayOFk8y = true := check_less (Ky := mayOFk9y) (Kn := mayOFk9n) (i := ⟨0, 10000, []⟩) (by kernel_rfl) (by kernel_rfl) (by kernel_rfl) (.inr mayOFh10) (.inr mayOFh11)
theorem mayOFh140 : DT.leaf.check (okF mayFmF Try.prog noOrc (fun _ => none) (fun _ => false) [3, 4, 5, 6] mayET 100000 (cFnL Try.prog) noTab 90 10 mayArgsF) mayOFk8n = true := check_leaf (by kernel_rfl)
def mayOFt8 : DT := .less 2 (1099511627777) mayOFt9 .leaf
theorem mayOFh8 : mayOFt8.check (okF mayFmF Try.prog noOrc (fun _ => none) (fun _ => false) [3, 4, 5, 6] mayET 100000 (cFnL Try.prog) noTab 90 10 mayArgsF) mayOFk6n = true := check_less (Ky := mayOFk8y) (Kn := mayOFk8n) (i := ⟨1, 9223372036854775807, []⟩) (by kernel_rfl) (by kernel_rfl) (by kernel_rfl) (.inr mayOFh9) (.inr mayOFh140)
def mayOFt6 : DT := .less 2 (1) .leaf mayOFt8
theorem mayOFh6 : mayOFt6.check (okF mayFmF Try.prog noOrc (fun _ => none) (fun _ => false) [3, 4, 5, 6] mayET 100000 (cFnL Try.prog) noTab 90 10 mayArgsF) mayOFk5y = true := check_less (Ky := mayOFk6y) (Kn := mayOFk6n) (i := ⟨-9223372036854775808, 9223372036854775807, []⟩) (by kernel_rfl) (by kernel_rfl) (by kernel_rfl) (.inr mayOFh7) (.inr mayOFh8)
theorem mayOFh141 : DT.leaf.check (okF mayFmF Try.prog noOrc (fun _ => none) (fun _ => false) [3, 4, 5, 6] mayET 100000 (cFnL Try.prog) noTab 90 10 mayArgsF) mayOFk5n = true := check_leaf (by kernel_rfl)
def mayOFt5 : DT := .less 1 (1048577) mayOFt6 .leaf
theorem mayOFh5 : mayOFt5.check (okF mayFmF Try.prog noOrc (fun _ => none) (fun _ => false) [3, 4, 5, 6] mayET 100000 (cFnL Try.prog) noTab 90 10 mayArgsF) mayOFk3n = true := check_less (Ky := mayOFk5y) (Kn := mayOFk5n) (i := ⟨1, 9223372036854775807, []⟩) (by kernel_rfl) (by kernel_rfl) (by kernel_rfl) (.inr mayOFh6) (.inr mayOFh141)
def mayOFt3 : DT := .less 1 (1) .leaf mayOFt5
theorem mayOFh3 : mayOFt3.check (okF mayFmF Try.prog noOrc (fun _ => none) (fun _ => false) [3, 4, 5, 6] mayET 100000 (cFnL Try.prog) noTab 90 10 mayArgsF) mayOFk2y = true := check_less (Ky := mayOFk3y) (Kn := mayOFk3n) (i := ⟨-9223372036854775808, 9223372036854775807, []⟩) (by kernel_rfl) (by kernel_rfl) (by kernel_rfl) (.inr mayOFh4) (.inr mayOFh5)
theorem mayOFh142 : DT.leaf.check (okF mayFmF Try.prog noOrc (fun _ => none) (fun _ => false) [3, 4, 5, 6] mayET 100000 (cFnL Try.prog) noTab 90 10 mayArgsF) mayOFk2n = true := check_leaf (by kernel_rfl)
def mayOFt2 : DT := .less 0 (8) mayOFt3 .leaf
theorem mayOFh2 : mayOFt2.check (okF mayFmF Try.prog noOrc (fun _ => none) (fun _ => false) [3, 4, 5, 6] mayET 100000 (cFnL Try.prog) noTab 90 10 mayArgsF) mayOFk0n = true := check_less (Ky := mayOFk2y) (Kn := mayOFk2n) (i := ⟨1, 9223372036854775807, []⟩) (by kernel_rfl) (by kernel_rfl) (by kernel_rfl) (.inr mayOFh3) (.inr mayOFh142)
def mayOFt0 : DT := .less 0 (1) .leaf mayOFt2
theorem mayOFh0 : mayOFt0.check (okF mayFmF Try.prog noOrc (fun _ => none) (fun _ => false) [3, 4, 5, 6] mayET 100000 (cFnL Try.prog) noTab 90 10 mayArgsF) mayKB = true := check_less (Ky := mayOFk0y) (Kn := mayOFk0n) (i := ⟨-9223372036854775808, 9223372036854775807, []⟩) (by kernel_rfl) (by kernel_rfl) (by kernel_rfl) (.inr mayOFh1) (.inr mayOFh2)
theorem mayOFCheck : mayOFt0.check (okF mayFmF Try.prog noOrc (fun _ => none) (fun _ => false) [3, 4, 5, 6] mayET 100000 (cFnL Try.prog) noTab 90 10 mayArgsF) mayKB = true := mayOFh0
end Go.Proofs.Ytblknjclkecglaa
