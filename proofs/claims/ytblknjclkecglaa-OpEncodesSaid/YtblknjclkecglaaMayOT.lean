/- What may be a request: satrapy/op.May: a tree of questions. -/
import Derived.Test.YtblknjclkecglaaMayA
import Derived.ProofKit
namespace Go.Proofs.Ytblknjclkecglaa
open Go.RowKit
set_option linter.unusedVariables false
set_option linter.unusedSimpArgs false
set_option maxRecDepth 100000

def mayOTk0y : KB := mayKB.put 0 ⟨-9223372036854775808, 0, []⟩
def mayOTk0n : KB := mayKB.put 0 ⟨1, 9223372036854775807, []⟩
theorem mayOTh1 : DT.leaf.check (okF mayFmT Try.prog noOrc (fun _ => none) (fun _ => false) [3, 4, 5, 6] mayET 100000 (cFnL Try.prog) noTab 90 10 mayArgsT) mayOTk0y = true := check_leaf (by kernel_rfl)
def mayOTk2y : KB := mayOTk0n.put 0 ⟨1, 7, []⟩
def mayOTk2n : KB := mayOTk0n.put 0 ⟨8, 9223372036854775807, []⟩
def mayOTk3y : KB := mayOTk2y.put 1 ⟨-9223372036854775808, 0, []⟩
def mayOTk3n : KB := mayOTk2y.put 1 ⟨1, 9223372036854775807, []⟩
theorem mayOTh4 : DT.leaf.check (okF mayFmT Try.prog noOrc (fun _ => none) (fun _ => false) [3, 4, 5, 6] mayET 100000 (cFnL Try.prog) noTab 90 10 mayArgsT) mayOTk3y = true := check_leaf (by kernel_rfl)
def mayOTk5y : KB := mayOTk3n.put 1 ⟨1, 1048576, []⟩
def mayOTk5n : KB := mayOTk3n.put 1 ⟨1048577, 9223372036854775807, []⟩
def mayOTk6y : KB := mayOTk5y.put 2 ⟨-9223372036854775808, 0, []⟩
def mayOTk6n : KB := mayOTk5y.put 2 ⟨1, 9223372036854775807, []⟩
theorem mayOTh7 : DT.leaf.check (okF mayFmT Try.prog noOrc (fun _ => none) (fun _ => false) [3, 4, 5, 6] mayET 100000 (cFnL Try.prog) noTab 90 10 mayArgsT) mayOTk6y = true := check_leaf (by kernel_rfl)
def mayOTk8y : KB := mayOTk6n.put 2 ⟨1, 1099511627776, []⟩
def mayOTk8n : KB := mayOTk6n.put 2 ⟨1099511627777, 9223372036854775807, []⟩
def mayOTk9y : KB := mayOTk8y.put 1003 ⟨0, 0, []⟩
def mayOTk9n : KB := mayOTk8y.put 1003 ⟨1, 10000, []⟩
theorem mayOTh10 : DT.leaf.check (okF mayFmT Try.prog noOrc (fun _ => none) (fun _ => false) [3, 4, 5, 6] mayET 100000 (cFnL Try.prog) noTab 90 10 mayArgsT) mayOTk9y = true := check_leaf (by kernel_rfl)
def mayOTk11y : KB := mayOTk9n.put 1003 ⟨1, 16, []⟩
def mayOTk11n : KB := mayOTk9n.put 1003 ⟨17, 10000, []⟩
def mayOTk12y : KB := mayOTk11y.put 1004 ⟨0, 0, []⟩
def mayOTk12n : KB := mayOTk11y.put 1004 ⟨1, 10000, []⟩
theorem mayOTh13 : DT.leaf.check (okF mayFmT Try.prog noOrc (fun _ => none) (fun _ => false) [3, 4, 5, 6] mayET 100000 (cFnL Try.prog) noTab 90 10 mayArgsT) mayOTk12y = true := check_leaf (by kernel_rfl)
def mayOTk14y : KB := mayOTk12n.put 1004 ⟨1, 16, []⟩
def mayOTk14n : KB := mayOTk12n.put 1004 ⟨17, 10000, []⟩
def mayOTk15y : KB := mayOTk14y.put 0 ⟨1, 1, []⟩
def mayOTk15n : KB := mayOTk14y.put 0 ⟨2, 7, []⟩
def mayOTk16y : KB := mayOTk15y.put 7 ⟨-9223372036854775808, -1, []⟩
def mayOTk16n : KB := mayOTk15y.put 7 ⟨0, 9223372036854775807, []⟩
theorem mayOTh17 : DT.leaf.check (okF mayFmT Try.prog noOrc (fun _ => none) (fun _ => false) [3, 4, 5, 6] mayET 100000 (cFnL Try.prog) noTab 90 10 mayArgsT) mayOTk16y = true := check_leaf (by kernel_rfl)
def mayOTk18y : KB := mayOTk16n.put 7 ⟨0, 3, []⟩
def mayOTk18n : KB := mayOTk16n.put 7 ⟨4, 9223372036854775807, []⟩
def mayOTk19y : KB := mayOTk18y.put 8 ⟨-9223372036854775808, 0, []⟩
def mayOTk19n : KB := mayOTk18y.put 8 ⟨1, 9223372036854775807, []⟩
theorem mayOTh20 : DT.leaf.check (okF mayFmT Try.prog noOrc (fun _ => none) (fun _ => false) [3, 4, 5, 6] mayET 100000 (cFnL Try.prog) noTab 90 10 mayArgsT) mayOTk19y = true := check_leaf (by kernel_rfl)
def mayOTk21y : KB := mayOTk19n.put 8 ⟨1, 1048576, []⟩
def mayOTk21n : KB := mayOTk19n.put 8 ⟨1048577, 9223372036854775807, []⟩
def mayOTk22y : KB := mayOTk21y.put 1005 ⟨0, 0, []⟩
def mayOTk22n : KB := mayOTk21y.put 1005 ⟨1, 10000, []⟩
def mayOTk23y : KB := mayOTk22y.put 1006 ⟨0, 0, []⟩
def mayOTk23n : KB := mayOTk22y.put 1006 ⟨1, 10000, []⟩
def mayOTk24y : KB := mayOTk23y.put 9 ⟨0, 0, []⟩
def mayOTk24n : KB := mayOTk23y.put 9 ⟨-9223372036854775808, 9223372036854775807, [0]⟩
theorem mayOTh25 : DT.leaf.check (okF mayFmT Try.prog noOrc (fun _ => none) (fun _ => false) [3, 4, 5, 6] mayET 100000 (cFnL Try.prog) noTab 90 10 mayArgsT) mayOTk24y = true := check_leaf (by kernel_rfl)
theorem mayOTh26 : DT.leaf.check (okF mayFmT Try.prog noOrc (fun _ => none) (fun _ => false) [3, 4, 5, 6] mayET 100000 (cFnL Try.prog) noTab 90 10 mayArgsT) mayOTk24n = true := check_leaf (by kernel_rfl)
def mayOTt24 : DT := .same 9 (0) .leaf .leaf
theorem mayOTh24 : mayOTt24.check (okF mayFmT Try.prog noOrc (fun _ => none) (fun _ => false) [3, 4, 5, 6] mayET 100000 (cFnL Try.prog) noTab 90 10 mayArgsT) mayOTk23y = true := check_same (Ky := mayOTk24y) (Kn := mayOTk24n) (i := ⟨-9223372036854775808, 9223372036854775807, []⟩) (by kernel_rfl) (by kernel_rfl) (by kernel_rfl) (.inr mayOTh25) (.inr mayOTh26)
theorem mayOTh27 : DT.leaf.check (okF mayFmT Try.prog noOrc (fun _ => none) (fun _ => false) [3, 4, 5, 6] mayET 100000 (cFnL Try.prog) noTab 90 10 mayArgsT) mayOTk23n = true := check_leaf (by kernel_rfl)
def mayOTt23 : DT := .same 1006 (0) mayOTt24 .leaf
theorem mayOTh23 : mayOTt23.check (okF mayFmT Try.prog noOrc (fun _ => none) (fun _ => false) [3, 4, 5, 6] mayET 100000 (cFnL Try.prog) noTab 90 10 mayArgsT) mayOTk22y = true := check_same (Ky := mayOTk23y) (Kn := mayOTk23n) (i := ⟨0, 10000, []⟩) (by kernel_rfl) (by kernel_rfl) (by kernel_rfl) (.inr mayOTh24) (.inr mayOTh27)
theorem mayOTh28 : DT.leaf.check (okF mayFmT Try.prog noOrc (fun _ => none) (fun _ => false) [3, 4, 5, 6] mayET 100000 (cFnL Try.prog) noTab 90 10 mayArgsT) mayOTk22n = true := check_leaf (by kernel_rfl)
def mayOTt22 : DT := .same 1005 (0) mayOTt23 .leaf
theorem mayOTh22 : mayOTt22.check (okF mayFmT Try.prog noOrc (fun _ => none) (fun _ => false) [3, 4, 5, 6] mayET 100000 (cFnL Try.prog) noTab 90 10 mayArgsT) mayOTk21y = true := check_same (Ky := mayOTk22y) (Kn := mayOTk22n) (i := ⟨0, 10000, []⟩) (by kernel_rfl) (by kernel_rfl) (by kernel_rfl) (.inr mayOTh23) (.inr mayOTh28)
theorem mayOTh29 : DT.leaf.check (okF mayFmT Try.prog noOrc (fun _ => none) (fun _ => false) [3, 4, 5, 6] mayET 100000 (cFnL Try.prog) noTab 90 10 mayArgsT) mayOTk21n = true := check_leaf (by kernel_rfl)
def mayOTt21 : DT := .less 8 (1048577) mayOTt22 .leaf
theorem mayOTh21 : mayOTt21.check (okF mayFmT Try.prog noOrc (fun _ => none) (fun _ => false) [3, 4, 5, 6] mayET 100000 (cFnL Try.prog) noTab 90 10 mayArgsT) mayOTk19n = true := check_less (Ky := mayOTk21y) (Kn := mayOTk21n) (i := ⟨1, 9223372036854775807, []⟩) (by kernel_rfl) (by kernel_rfl) (by kernel_rfl) (.inr mayOTh22) (.inr mayOTh29)
def mayOTt19 : DT := .less 8 (1) .leaf mayOTt21
theorem mayOTh19 : mayOTt19.check (okF mayFmT Try.prog noOrc (fun _ => none) (fun _ => false) [3, 4, 5, 6] mayET 100000 (cFnL Try.prog) noTab 90 10 mayArgsT) mayOTk18y = true := check_less (Ky := mayOTk19y) (Kn := mayOTk19n) (i := ⟨-9223372036854775808, 9223372036854775807, []⟩) (by kernel_rfl) (by kernel_rfl) (by kernel_rfl) (.inr mayOTh20) (.inr mayOTh21)
theorem mayOTh30 : DT.leaf.check (okF mayFmT Try.prog noOrc (fun _ => none) (fun _ => false) [3, 4, 5, 6] mayET 100000 (cFnL Try.prog) noTab 90 10 mayArgsT) mayOTk18n = true := check_leaf (by kernel_rfl)
def mayOTt18 : DT := .less 7 (4) mayOTt19 .leaf
theorem mayOTh18 : mayOTt18.check (okF mayFmT Try.prog noOrc (fun _ => none) (fun _ => false) [3, 4, 5, 6] mayET 100000 (cFnL Try.prog) noTab 90 10 mayArgsT) mayOTk16n = true := check_less (Ky := mayOTk18y) (Kn := mayOTk18n) (i := ⟨0, 9223372036854775807, []⟩) (by kernel_rfl) (by kernel_rfl) (by kernel_rfl) (.inr mayOTh19) (.inr mayOTh30)
def mayOTt16 : DT := .less 7 (0) .leaf mayOTt18
theorem mayOTh16 : mayOTt16.check (okF mayFmT Try.prog noOrc (fun _ => none) (fun _ => false) [3, 4, 5, 6] mayET 100000 (cFnL Try.prog) noTab 90 10 mayArgsT) mayOTk15y = true := check_less (Ky := mayOTk16y) (Kn := mayOTk16n) (i := ⟨-9223372036854775808, 9223372036854775807, []⟩) (by kernel_rfl) (by kernel_rfl) (by kernel_rfl) (.inr mayOTh17) (.inr mayOTh18)
def mayOTk31y : KB := mayOTk15n.put 0 ⟨2, 2, []⟩
def mayOTk31n : KB := mayOTk15n.put 0 ⟨3, 7, []⟩
def mayOTk32y : KB := mayOTk31y.put 7 ⟨-9223372036854775808, -1, []⟩
def mayOTk32n : KB := mayOTk31y.put 7 ⟨0, 9223372036854775807, []⟩
theorem mayOTh33 : DT.leaf.check (okF mayFmT Try.prog noOrc (fun _ => none) (fun _ => false) [3, 4, 5, 6] mayET 100000 (cFnL Try.prog) noTab 90 10 mayArgsT) mayOTk32y = true := check_leaf (by kernel_rfl)
def mayOTk34y : KB := mayOTk32n.put 7 ⟨0, 3, []⟩
def mayOTk34n : KB := mayOTk32n.put 7 ⟨4, 9223372036854775807, []⟩
def mayOTk35y : KB := mayOTk34y.put 8 ⟨-9223372036854775808, 0, []⟩
def mayOTk35n : KB := mayOTk34y.put 8 ⟨1, 9223372036854775807, []⟩
theorem mayOTh36 : DT.leaf.check (okF mayFmT Try.prog noOrc (fun _ => none) (fun _ => false) [3, 4, 5, 6] mayET 100000 (cFnL Try.prog) noTab 90 10 mayArgsT) mayOTk35y = true := check_leaf (by kernel_rfl)
def mayOTk37y : KB := mayOTk35n.put 8 ⟨1, 1048576, []⟩
def mayOTk37n : KB := mayOTk35n.put 8 ⟨1048577, 9223372036854775807, []⟩
def mayOTk38y : KB := mayOTk37y.put 1005 ⟨0, 0, []⟩
def mayOTk38n : KB := mayOTk37y.put 1005 ⟨1, 10000, []⟩
theorem mayOTh39 : DT.leaf.check (okF mayFmT Try.prog noOrc (fun _ => none) (fun _ => false) [3, 4, 5, 6] mayET 100000 (cFnL Try.prog) noTab 90 10 mayArgsT) mayOTk38y = true := check_leaf (by kernel_rfl)
def mayOTk40y : KB := mayOTk38n.put 1005 ⟨1, 16, []⟩
def mayOTk40n : KB := mayOTk38n.put 1005 ⟨17, 10000, []⟩
def mayOTk41y : KB := mayOTk40y.put 1006 ⟨0, 0, []⟩
def mayOTk41n : KB := mayOTk40y.put 1006 ⟨1, 10000, []⟩
theorem mayOTh42 : DT.leaf.check (okF mayFmT Try.prog noOrc (fun _ => none) (fun _ => false) [3, 4, 5, 6] mayET 100000 (cFnL Try.prog) noTab 90 10 mayArgsT) mayOTk41y = true := check_leaf (by kernel_rfl)
def mayOTk43y : KB := mayOTk41n.put 1006 ⟨1, 16, []⟩
def mayOTk43n : KB := mayOTk41n.put 1006 ⟨17, 10000, []⟩
def mayOTk44y : KB := mayOTk43y.put 9 ⟨0, 0, []⟩
def mayOTk44n : KB := mayOTk43y.put 9 ⟨-9223372036854775808, 9223372036854775807, [0]⟩
theorem mayOTh45 : DT.leaf.check (okF mayFmT Try.prog noOrc (fun _ => none) (fun _ => false) [3, 4, 5, 6] mayET 100000 (cFnL Try.prog) noTab 90 10 mayArgsT) mayOTk44y = true := check_leaf (by kernel_rfl)
theorem mayOTh46 : DT.leaf.check (okF mayFmT Try.prog noOrc (fun _ => none) (fun _ => false) [3, 4, 5, 6] mayET 100000 (cFnL Try.prog) noTab 90 10 mayArgsT) mayOTk44n = true := check_leaf (by kernel_rfl)
def mayOTt44 : DT := .same 9 (0) .leaf .leaf
theorem mayOTh44 : mayOTt44.check (okF mayFmT Try.prog noOrc (fun _ => none) (fun _ => false) [3, 4, 5, 6] mayET 100000 (cFnL Try.prog) noTab 90 10 mayArgsT) mayOTk43y = true := check_same (Ky := mayOTk44y) (Kn := mayOTk44n) (i := ⟨-9223372036854775808, 9223372036854775807, []⟩) (by kernel_rfl) (by kernel_rfl) (by kernel_rfl) (.inr mayOTh45) (.inr mayOTh46)
theorem mayOTh47 : DT.leaf.check (okF mayFmT Try.prog noOrc (fun _ => none) (fun _ => false) [3, 4, 5, 6] mayET 100000 (cFnL Try.prog) noTab 90 10 mayArgsT) mayOTk43n = true := check_leaf (by kernel_rfl)
def mayOTt43 : DT := .less 1006 (17) mayOTt44 .leaf
theorem mayOTh43 : mayOTt43.check (okF mayFmT Try.prog noOrc (fun _ => none) (fun _ => false) [3, 4, 5, 6] mayET 100000 (cFnL Try.prog) noTab 90 10 mayArgsT) mayOTk41n = true := check_less (Ky := mayOTk43y) (Kn := mayOTk43n) (i := ⟨1, 10000, []⟩) (by kernel_rfl) (by kernel_rfl) (by kernel_rfl) (.inr mayOTh44) (.inr mayOTh47)
def mayOTt41 : DT := .less 1006 (1) .leaf mayOTt43
theorem mayOTh41 : mayOTt41.check (okF mayFmT Try.prog noOrc (fun _ => none) (fun _ => false) [3, 4, 5, 6] mayET 100000 (cFnL Try.prog) noTab 90 10 mayArgsT) mayOTk40y = true := check_less (Ky := mayOTk41y) (Kn := mayOTk41n) (i := ⟨0, 10000, []⟩) (by kernel_rfl) (by kernel_rfl) (by kernel_rfl) (.inr mayOTh42) (.inr mayOTh43)
theorem mayOTh48 : DT.leaf.check (okF mayFmT Try.prog noOrc (fun _ => none) (fun _ => false) [3, 4, 5, 6] mayET 100000 (cFnL Try.prog) noTab 90 10 mayArgsT) mayOTk40n = true := check_leaf (by kernel_rfl)
def mayOTt40 : DT := .less 1005 (17) mayOTt41 .leaf
theorem mayOTh40 : mayOTt40.check (okF mayFmT Try.prog noOrc (fun _ => none) (fun _ => false) [3, 4, 5, 6] mayET 100000 (cFnL Try.prog) noTab 90 10 mayArgsT) mayOTk38n = true := check_less (Ky := mayOTk40y) (Kn := mayOTk40n) (i := ⟨1, 10000, []⟩) (by kernel_rfl) (by kernel_rfl) (by kernel_rfl) (.inr mayOTh41) (.inr mayOTh48)
def mayOTt38 : DT := .less 1005 (1) .leaf mayOTt40
theorem mayOTh38 : mayOTt38.check (okF mayFmT Try.prog noOrc (fun _ => none) (fun _ => false) [3, 4, 5, 6] mayET 100000 (cFnL Try.prog) noTab 90 10 mayArgsT) mayOTk37y = true := check_less (Ky := mayOTk38y) (Kn := mayOTk38n) (i := ⟨0, 10000, []⟩) (by kernel_rfl) (by kernel_rfl) (by kernel_rfl) (.inr mayOTh39) (.inr mayOTh40)
theorem mayOTh49 : DT.leaf.check (okF mayFmT Try.prog noOrc (fun _ => none) (fun _ => false) [3, 4, 5, 6] mayET 100000 (cFnL Try.prog) noTab 90 10 mayArgsT) mayOTk37n = true := check_leaf (by kernel_rfl)
def mayOTt37 : DT := .less 8 (1048577) mayOTt38 .leaf
theorem mayOTh37 : mayOTt37.check (okF mayFmT Try.prog noOrc (fun _ => none) (fun _ => false) [3, 4, 5, 6] mayET 100000 (cFnL Try.prog) noTab 90 10 mayArgsT) mayOTk35n = true := check_less (Ky := mayOTk37y) (Kn := mayOTk37n) (i := ⟨1, 9223372036854775807, []⟩) (by kernel_rfl) (by kernel_rfl) (by kernel_rfl) (.inr mayOTh38) (.inr mayOTh49)
def mayOTt35 : DT := .less 8 (1) .leaf mayOTt37
theorem mayOTh35 : mayOTt35.check (okF mayFmT Try.prog noOrc (fun _ => none) (fun _ => false) [3, 4, 5, 6] mayET 100000 (cFnL Try.prog) noTab 90 10 mayArgsT) mayOTk34y = true := check_less (Ky := mayOTk35y) (Kn := mayOTk35n) (i := ⟨-9223372036854775808, 9223372036854775807, []⟩) (by kernel_rfl) (by kernel_rfl) (by kernel_rfl) (.inr mayOTh36) (.inr mayOTh37)
theorem mayOTh50 : DT.leaf.check (okF mayFmT Try.prog noOrc (fun _ => none) (fun _ => false) [3, 4, 5, 6] mayET 100000 (cFnL Try.prog) noTab 90 10 mayArgsT) mayOTk34n = true := check_leaf (by kernel_rfl)
def mayOTt34 : DT := .less 7 (4) mayOTt35 .leaf
theorem mayOTh34 : mayOTt34.check (okF mayFmT Try.prog noOrc (fun _ => none) (fun _ => false) [3, 4, 5, 6] mayET 100000 (cFnL Try.prog) noTab 90 10 mayArgsT) mayOTk32n = true := check_less (Ky := mayOTk34y) (Kn := mayOTk34n) (i := ⟨0, 9223372036854775807, []⟩) (by kernel_rfl) (by kernel_rfl) (by kernel_rfl) (.inr mayOTh35) (.inr mayOTh50)
def mayOTt32 : DT := .less 7 (0) .leaf mayOTt34
theorem mayOTh32 : mayOTt32.check (okF mayFmT Try.prog noOrc (fun _ => none) (fun _ => false) [3, 4, 5, 6] mayET 100000 (cFnL Try.prog) noTab 90 10 mayArgsT) mayOTk31y = true := check_less (Ky := mayOTk32y) (Kn := mayOTk32n) (i := ⟨-9223372036854775808, 9223372036854775807, []⟩) (by kernel_rfl) (by kernel_rfl) (by kernel_rfl) (.inr mayOTh33) (.inr mayOTh34)
def mayOTk51y : KB := mayOTk31n.put 0 ⟨3, 3, []⟩
def mayOTk51n : KB := mayOTk31n.put 0 ⟨4, 7, []⟩
def mayOTk52y : KB := mayOTk51y.put 7 ⟨-9223372036854775808, -1, []⟩
def mayOTk52n : KB := mayOTk51y.put 7 ⟨0, 9223372036854775807, []⟩
theorem mayOTh53 : DT.leaf.check (okF mayFmT Try.prog noOrc (fun _ => none) (fun _ => false) [3, 4, 5, 6] mayET 100000 (cFnL Try.prog) noTab 90 10 mayArgsT) mayOTk52y = true := check_leaf (by kernel_rfl)
def mayOTk54y : KB := mayOTk52n.put 7 ⟨0, 3, []⟩
def mayOTk54n : KB := mayOTk52n.put 7 ⟨4, 9223372036854775807, []⟩
def mayOTk55y : KB := mayOTk54y.put 8 ⟨-9223372036854775808, 0, []⟩
def mayOTk55n : KB := mayOTk54y.put 8 ⟨1, 9223372036854775807, []⟩
theorem mayOTh56 : DT.leaf.check (okF mayFmT Try.prog noOrc (fun _ => none) (fun _ => false) [3, 4, 5, 6] mayET 100000 (cFnL Try.prog) noTab 90 10 mayArgsT) mayOTk55y = true := check_leaf (by kernel_rfl)
def mayOTk57y : KB := mayOTk55n.put 8 ⟨1, 1048576, []⟩
def mayOTk57n : KB := mayOTk55n.put 8 ⟨1048577, 9223372036854775807, []⟩
def mayOTk58y : KB := mayOTk57y.put 7 ⟨0, 0, []⟩
def mayOTk58n : KB := mayOTk57y.put 7 ⟨1, 3, []⟩
theorem mayOTh59 : DT.leaf.check (okF mayFmT Try.prog noOrc (fun _ => none) (fun _ => false) [3, 4, 5, 6] mayET 100000 (cFnL Try.prog) noTab 90 10 mayArgsT) mayOTk58y = true := check_leaf (by kernel_rfl)
def mayOTk60y : KB := mayOTk58n.put 9 ⟨-9223372036854775808, 0, []⟩
def mayOTk60n : KB := mayOTk58n.put 9 ⟨1, 9223372036854775807, []⟩
theorem mayOTh61 : DT.leaf.check (okF mayFmT Try.prog noOrc (fun _ => none) (fun _ => false) [3, 4, 5, 6] mayET 100000 (cFnL Try.prog) noTab 90 10 mayArgsT) mayOTk60y = true := check_leaf (by kernel_rfl)
def mayOTk62y : KB := mayOTk60n.put 9 ⟨1, 1024, []⟩
def mayOTk62n : KB := mayOTk60n.put 9 ⟨1025, 9223372036854775807, []⟩
def mayOTk63y : KB := mayOTk62y.put 1005 ⟨0, 0, []⟩
def mayOTk63n : KB := mayOTk62y.put 1005 ⟨1, 10000, []⟩
def mayOTk64y : KB := mayOTk63y.put 1006 ⟨0, 0, []⟩
def mayOTk64n : KB := mayOTk63y.put 1006 ⟨1, 10000, []⟩
def mayOTk65y : KB := mayOTk64y.put 11 ⟨0, 0, []⟩
def mayOTk65n : KB := mayOTk64y.put 11 ⟨-9223372036854775808, 9223372036854775807, [0]⟩
theorem mayOTh66 : DT.leaf.check (okF mayFmT Try.prog noOrc (fun _ => none) (fun _ => false) [3, 4, 5, 6] mayET 100000 (cFnL Try.prog) noTab 90 10 mayArgsT) mayOTk65y = true := check_leaf (by kernel_rfl)
theorem mayOTh67 : DT.leaf.check (okF mayFmT Try.prog noOrc (fun _ => none) (fun _ => false) [3, 4, 5, 6] mayET 100000 (cFnL Try.prog) noTab 90 10 mayArgsT) mayOTk65n = true := check_leaf (by kernel_rfl)
def mayOTt65 : DT := .same 11 (0) .leaf .leaf
theorem mayOTh65 : mayOTt65.check (okF mayFmT Try.prog noOrc (fun _ => none) (fun _ => false) [3, 4, 5, 6] mayET 100000 (cFnL Try.prog) noTab 90 10 mayArgsT) mayOTk64y = true := check_same (Ky := mayOTk65y) (Kn := mayOTk65n) (i := ⟨-9223372036854775808, 9223372036854775807, []⟩) (by kernel_rfl) (by kernel_rfl) (by kernel_rfl) (.inr mayOTh66) (.inr mayOTh67)
theorem mayOTh68 : DT.leaf.check (okF mayFmT Try.prog noOrc (fun _ => none) (fun _ => false) [3, 4, 5, 6] mayET 100000 (cFnL Try.prog) noTab 90 10 mayArgsT) mayOTk64n = true := check_leaf (by kernel_rfl)
def mayOTt64 : DT := .same 1006 (0) mayOTt65 .leaf
theorem mayOTh64 : mayOTt64.check (okF mayFmT Try.prog noOrc (fun _ => none) (fun _ => false) [3, 4, 5, 6] mayET 100000 (cFnL Try.prog) noTab 90 10 mayArgsT) mayOTk63y = true := check_same (Ky := mayOTk64y) (Kn := mayOTk64n) (i := ⟨0, 10000, []⟩) (by kernel_rfl) (by kernel_rfl) (by kernel_rfl) (.inr mayOTh65) (.inr mayOTh68)
theorem mayOTh69 : DT.leaf.check (okF mayFmT Try.prog noOrc (fun _ => none) (fun _ => false) [3, 4, 5, 6] mayET 100000 (cFnL Try.prog) noTab 90 10 mayArgsT) mayOTk63n = true := check_leaf (by kernel_rfl)
def mayOTt63 : DT := .same 1005 (0) mayOTt64 .leaf
theorem mayOTh63 : mayOTt63.check (okF mayFmT Try.prog noOrc (fun _ => none) (fun _ => false) [3, 4, 5, 6] mayET 100000 (cFnL Try.prog) noTab 90 10 mayArgsT) mayOTk62y = true := check_same (Ky := mayOTk63y) (Kn := mayOTk63n) (i := ⟨0, 10000, []⟩) (by kernel_rfl) (by kernel_rfl) (by kernel_rfl) (.inr mayOTh64) (.inr mayOTh69)
theorem mayOTh70 : DT.leaf.check (okF mayFmT Try.prog noOrc (fun _ => none) (fun _ => false) [3, 4, 5, 6] mayET 100000 (cFnL Try.prog) noTab 90 10 mayArgsT) mayOTk62n = true := check_leaf (by kernel_rfl)
def mayOTt62 : DT := .less 9 (1025) mayOTt63 .leaf
theorem mayOTh62 : mayOTt62.check (okF mayFmT Try.prog noOrc (fun _ => none) (fun _ => false) [3, 4, 5, 6] mayET 100000 (cFnL Try.prog) noTab 90 10 mayArgsT) mayOTk60n = true := check_less (Ky := mayOTk62y) (Kn := mayOTk62n) (i := ⟨1, 9223372036854775807, []⟩) (by kernel_rfl) (by kernel_rfl) (by kernel_rfl) (.inr mayOTh63) (.inr mayOTh70)
def mayOTt60 : DT := .less 9 (1) .leaf mayOTt62
theorem mayOTh60 : mayOTt60.check (okF mayFmT Try.prog noOrc (fun _ => none) (fun _ => false) [3, 4, 5, 6] mayET 100000 (cFnL Try.prog) noTab 90 10 mayArgsT) mayOTk58n = true := check_less (Ky := mayOTk60y) (Kn := mayOTk60n) (i := ⟨-9223372036854775808, 9223372036854775807, []⟩) (by kernel_rfl) (by kernel_rfl) (by kernel_rfl) (.inr mayOTh61) (.inr mayOTh62)
def mayOTt58 : DT := .same 7 (0) .leaf mayOTt60
theorem mayOTh58 : mayOTt58.check (okF mayFmT Try.prog noOrc (fun _ => none) (fun _ => false) [3, 4, 5, 6] mayET 100000 (cFnL Try.prog) noTab 90 10 mayArgsT) mayOTk57y = true := check_same (Ky := mayOTk58y) (Kn := mayOTk58n) (i := ⟨0, 3, []⟩) (by kernel_rfl) (by kernel_rfl) (by kernel_rfl) (.inr mayOTh59) (.inr mayOTh60)
theorem mayOTh71 : DT.leaf.check (okF mayFmT Try.prog noOrc (fun _ => none) (fun _ => false) [3, 4, 5, 6] mayET 100000 (cFnL Try.prog) noTab 90 10 mayArgsT) mayOTk57n = true := check_leaf (by kernel_rfl)
def mayOTt57 : DT := .less 8 (1048577) mayOTt58 .leaf
theorem mayOTh57 : mayOTt57.check (okF mayFmT Try.prog noOrc (fun _ => none) (fun _ => false) [3, 4, 5, 6] mayET 100000 (cFnL Try.prog) noTab 90 10 mayArgsT) mayOTk55n = true := check_less (Ky := mayOTk57y) (Kn := mayOTk57n) (i := ⟨1, 9223372036854775807, []⟩) (by kernel_rfl) (by kernel_rfl) (by kernel_rfl) (.inr mayOTh58) (.inr mayOTh71)
def mayOTt55 : DT := .less 8 (1) .leaf mayOTt57
theorem mayOTh55 : mayOTt55.check (okF mayFmT Try.prog noOrc (fun _ => none) (fun _ => false) [3, 4, 5, 6] mayET 100000 (cFnL Try.prog) noTab 90 10 mayArgsT) mayOTk54y = true := check_less (Ky := mayOTk55y) (Kn := mayOTk55n) (i := ⟨-9223372036854775808, 9223372036854775807, []⟩) (by kernel_rfl) (by kernel_rfl) (by kernel_rfl) (.inr mayOTh56) (.inr mayOTh57)
theorem mayOTh72 : DT.leaf.check (okF mayFmT Try.prog noOrc (fun _ => none) (fun _ => false) [3, 4, 5, 6] mayET 100000 (cFnL Try.prog) noTab 90 10 mayArgsT) mayOTk54n = true := check_leaf (by kernel_rfl)
def mayOTt54 : DT := .less 7 (4) mayOTt55 .leaf
theorem mayOTh54 : mayOTt54.check (okF mayFmT Try.prog noOrc (fun _ => none) (fun _ => false) [3, 4, 5, 6] mayET 100000 (cFnL Try.prog) noTab 90 10 mayArgsT) mayOTk52n = true := check_less (Ky := mayOTk54y) (Kn := mayOTk54n) (i := ⟨0, 9223372036854775807, []⟩) (by kernel_rfl) (by kernel_rfl) (by kernel_rfl) (.inr mayOTh55) (.inr mayOTh72)
def mayOTt52 : DT := .less 7 (0) .leaf mayOTt54
theorem mayOTh52 : mayOTt52.check (okF mayFmT Try.prog noOrc (fun _ => none) (fun _ => false) [3, 4, 5, 6] mayET 100000 (cFnL Try.prog) noTab 90 10 mayArgsT) mayOTk51y = true := check_less (Ky := mayOTk52y) (Kn := mayOTk52n) (i := ⟨-9223372036854775808, 9223372036854775807, []⟩) (by kernel_rfl) (by kernel_rfl) (by kernel_rfl) (.inr mayOTh53) (.inr mayOTh54)
def mayOTk73y : KB := mayOTk51n.put 0 ⟨4, 4, []⟩
def mayOTk73n : KB := mayOTk51n.put 0 ⟨5, 7, []⟩
def mayOTk74y : KB := mayOTk73y.put 11 ⟨-9223372036854775808, 0, []⟩
def mayOTk74n : KB := mayOTk73y.put 11 ⟨1, 9223372036854775807, []⟩
theorem mayOTh75 : DT.leaf.check (okF mayFmT Try.prog noOrc (fun _ => none) (fun _ => false) [3, 4, 5, 6] mayET 100000 (cFnL Try.prog) noTab 90 10 mayArgsT) mayOTk74y = true := check_leaf (by kernel_rfl)
def mayOTk76y : KB := mayOTk74n.put 11 ⟨1, 1099511627776, []⟩
def mayOTk76n : KB := mayOTk74n.put 11 ⟨1099511627777, 9223372036854775807, []⟩
def mayOTk77y : KB := mayOTk76y.put 1005 ⟨0, 0, []⟩
def mayOTk77n : KB := mayOTk76y.put 1005 ⟨1, 10000, []⟩
def mayOTk78y : KB := mayOTk77y.put 1006 ⟨0, 0, []⟩
def mayOTk78n : KB := mayOTk77y.put 1006 ⟨1, 10000, []⟩
def mayOTk79y : KB := mayOTk78y.put 7 ⟨0, 0, []⟩
def mayOTk79n : KB := mayOTk78y.put 7 ⟨-9223372036854775808, 9223372036854775807, [0]⟩
def mayOTk80y : KB := mayOTk79y.put 8 ⟨0, 0, []⟩
def mayOTk80n : KB := mayOTk79y.put 8 ⟨-9223372036854775808, 9223372036854775807, [0]⟩
def mayOTk81y : KB := mayOTk80y.put 9 ⟨0, 0, []⟩
def mayOTk81n : KB := mayOTk80y.put 9 ⟨-9223372036854775808, 9223372036854775807, [0]⟩
theorem mayOTh82 : DT.leaf.check (okF mayFmT Try.prog noOrc (fun _ => none) (fun _ => false) [3, 4, 5, 6] mayET 100000 (cFnL Try.prog) noTab 90 10 mayArgsT) mayOTk81y = true := check_leaf (by kernel_rfl)
theorem mayOTh83 : DT.leaf.check (okF mayFmT Try.prog noOrc (fun _ => none) (fun _ => false) [3, 4, 5, 6] mayET 100000 (cFnL Try.prog) noTab 90 10 mayArgsT) mayOTk81n = true := check_leaf (by kernel_rfl)
def mayOTt81 : DT := .same 9 (0) .leaf .leaf
theorem mayOTh81 : mayOTt81.check (okF mayFmT Try.prog noOrc (fun _ => none) (fun _ => false) [3, 4, 5, 6] mayET 100000 (cFnL Try.prog) noTab 90 10 mayArgsT) mayOTk80y = true := check_same (Ky := mayOTk81y) (Kn := mayOTk81n) (i := ⟨-9223372036854775808, 9223372036854775807, []⟩) (by kernel_rfl) (by kernel_rfl) (by kernel_rfl) (.inr mayOTh82) (.inr mayOTh83)
theorem mayOTh84 : DT.leaf.check (okF mayFmT Try.prog noOrc (fun _ => none) (fun _ => false) [3, 4, 5, 6] mayET 100000 (cFnL Try.prog) noTab 90 10 mayArgsT) mayOTk80n = true := check_leaf (by kernel_rfl)
def mayOTt80 : DT := .same 8 (0) mayOTt81 .leaf
theorem mayOTh80 : mayOTt80.check (okF mayFmT Try.prog noOrc (fun _ => none) (fun _ => false) [3, 4, 5, 6] mayET 100000 (cFnL Try.prog) noTab 90 10 mayArgsT) mayOTk79y = true := check_same (Ky := mayOTk80y) (Kn := mayOTk80n) (i := ⟨-9223372036854775808, 9223372036854775807, []⟩) (by kernel_rfl) (by kernel_rfl) (by kernel_rfl) (.inr mayOTh81) (.inr mayOTh84)
theorem mayOTh85 : DT.leaf.check (okF mayFmT Try.prog noOrc (fun _ => none) (fun _ => false) [3, 4, 5, 6] mayET 100000 (cFnL Try.prog) noTab 90 10 mayArgsT) mayOTk79n = true := check_leaf (by kernel_rfl)
def mayOTt79 : DT := .same 7 (0) mayOTt80 .leaf
theorem mayOTh79 : mayOTt79.check (okF mayFmT Try.prog noOrc (fun _ => none) (fun _ => false) [3, 4, 5, 6] mayET 100000 (cFnL Try.prog) noTab 90 10 mayArgsT) mayOTk78y = true := check_same (Ky := mayOTk79y) (Kn := mayOTk79n) (i := ⟨-9223372036854775808, 9223372036854775807, []⟩) (by kernel_rfl) (by kernel_rfl) (by kernel_rfl) (.inr mayOTh80) (.inr mayOTh85)
theorem mayOTh86 : DT.leaf.check (okF mayFmT Try.prog noOrc (fun _ => none) (fun _ => false) [3, 4, 5, 6] mayET 100000 (cFnL Try.prog) noTab 90 10 mayArgsT) mayOTk78n = true := check_leaf (by kernel_rfl)
def mayOTt78 : DT := .same 1006 (0) mayOTt79 .leaf
theorem mayOTh78 : mayOTt78.check (okF mayFmT Try.prog noOrc (fun _ => none) (fun _ => false) [3, 4, 5, 6] mayET 100000 (cFnL Try.prog) noTab 90 10 mayArgsT) mayOTk77y = true := check_same (Ky := mayOTk78y) (Kn := mayOTk78n) (i := ⟨0, 10000, []⟩) (by kernel_rfl) (by kernel_rfl) (by kernel_rfl) (.inr mayOTh79) (.inr mayOTh86)
theorem mayOTh87 : DT.leaf.check (okF mayFmT Try.prog noOrc (fun _ => none) (fun _ => false) [3, 4, 5, 6] mayET 100000 (cFnL Try.prog) noTab 90 10 mayArgsT) mayOTk77n = true := check_leaf (by kernel_rfl)
def mayOTt77 : DT := .same 1005 (0) mayOTt78 .leaf
theorem mayOTh77 : mayOTt77.check (okF mayFmT Try.prog noOrc (fun _ => none) (fun _ => false) [3, 4, 5, 6] mayET 100000 (cFnL Try.prog) noTab 90 10 mayArgsT) mayOTk76y = true := check_same (Ky := mayOTk77y) (Kn := mayOTk77n) (i := ⟨0, 10000, []⟩) (by kernel_rfl) (by kernel_rfl) (by kernel_rfl) (.inr mayOTh78) (.inr mayOTh87)
theorem mayOTh88 : DT.leaf.check (okF mayFmT Try.prog noOrc (fun _ => none) (fun _ => false) [3, 4, 5, 6] mayET 100000 (cFnL Try.prog) noTab 90 10 mayArgsT) mayOTk76n = true := check_leaf (by kernel_rfl)
def mayOTt76 : DT := .less 11 (1099511627777) mayOTt77 .leaf
theorem mayOTh76 : mayOTt76.check (okF mayFmT Try.prog noOrc (fun _ => none) (fun _ => false) [3, 4, 5, 6] mayET 100000 (cFnL Try.prog) noTab 90 10 mayArgsT) mayOTk74n = true := check_less (Ky := mayOTk76y) (Kn := mayOTk76n) (i := ⟨1, 9223372036854775807, []⟩) (by kernel_rfl) (by kernel_rfl) (by kernel_rfl) (.inr mayOTh77) (.inr mayOTh88)
def mayOTt74 : DT := .less 11 (1) .leaf mayOTt76
theorem mayOTh74 : mayOTt74.check (okF mayFmT Try.prog noOrc (fun _ => none) (fun _ => false) [3, 4, 5, 6] mayET 100000 (cFnL Try.prog) noTab 90 10 mayArgsT) mayOTk73y = true := check_less (Ky := mayOTk74y) (Kn := mayOTk74n) (i := ⟨-9223372036854775808, 9223372036854775807, []⟩) (by kernel_rfl) (by kernel_rfl) (by kernel_rfl) (.inr mayOTh75) (.inr mayOTh76)
def mayOTk89y : KB := mayOTk73n.put 0 ⟨5, 5, []⟩
def mayOTk89n : KB := mayOTk73n.put 0 ⟨6, 7, []⟩
def mayOTk90y : KB := mayOTk89y.put 1005 ⟨0, 0, []⟩
def mayOTk90n : KB := mayOTk89y.put 1005 ⟨1, 10000, []⟩
def mayOTk91y : KB := mayOTk90y.put 1006 ⟨0, 0, []⟩
def mayOTk91n : KB := mayOTk90y.put 1006 ⟨1, 10000, []⟩
def mayOTk92y : KB := mayOTk91y.put 7 ⟨0, 0, []⟩
def mayOTk92n : KB := mayOTk91y.put 7 ⟨-9223372036854775808, 9223372036854775807, [0]⟩
def mayOTk93y : KB := mayOTk92y.put 8 ⟨0, 0, []⟩
def mayOTk93n : KB := mayOTk92y.put 8 ⟨-9223372036854775808, 9223372036854775807, [0]⟩
def mayOTk94y : KB := mayOTk93y.put 9 ⟨0, 0, []⟩
def mayOTk94n : KB := mayOTk93y.put 9 ⟨-9223372036854775808, 9223372036854775807, [0]⟩
theorem mayOTh95 : DT.leaf.check (okF mayFmT Try.prog noOrc (fun _ => none) (fun _ => false) [3, 4, 5, 6] mayET 100000 (cFnL Try.prog) noTab 90 10 mayArgsT) mayOTk94y = true := check_leaf (by kernel_rfl)
theorem mayOTh96 : DT.leaf.check (okF mayFmT Try.prog noOrc (fun _ => none) (fun _ => false) [3, 4, 5, 6] mayET 100000 (cFnL Try.prog) noTab 90 10 mayArgsT) mayOTk94n = true := check_leaf (by kernel_rfl)
def mayOTt94 : DT := .same 9 (0) .leaf .leaf
theorem mayOTh94 : mayOTt94.check (okF mayFmT Try.prog noOrc (fun _ => none) (fun _ => false) [3, 4, 5, 6] mayET 100000 (cFnL Try.prog) noTab 90 10 mayArgsT) mayOTk93y = true := check_same (Ky := mayOTk94y) (Kn := mayOTk94n) (i := ⟨-9223372036854775808, 9223372036854775807, []⟩) (by kernel_rfl) (by kernel_rfl) (by kernel_rfl) (.inr mayOTh95) (.inr mayOTh96)
theorem mayOTh97 : DT.leaf.check (okF mayFmT Try.prog noOrc (fun _ => none) (fun _ => false) [3, 4, 5, 6] mayET 100000 (cFnL Try.prog) noTab 90 10 mayArgsT) mayOTk93n = true := check_leaf (by kernel_rfl)
def mayOTt93 : DT := .same 8 (0) mayOTt94 .leaf
theorem mayOTh93 : mayOTt93.check (okF mayFmT Try.prog noOrc (fun _ => none) (fun _ => false) [3, 4, 5, 6] mayET 100000 (cFnL Try.prog) noTab 90 10 mayArgsT) mayOTk92y = true := check_same (Ky := mayOTk93y) (Kn := mayOTk93n) (i := ⟨-9223372036854775808, 9223372036854775807, []⟩) (by kernel_rfl) (by kernel_rfl) (by kernel_rfl) (.inr mayOTh94) (.inr mayOTh97)
theorem mayOTh98 : DT.leaf.check (okF mayFmT Try.prog noOrc (fun _ => none) (fun _ => false) [3, 4, 5, 6] mayET 100000 (cFnL Try.prog) noTab 90 10 mayArgsT) mayOTk92n = true := check_leaf (by kernel_rfl)
def mayOTt92 : DT := .same 7 (0) mayOTt93 .leaf
theorem mayOTh92 : mayOTt92.check (okF mayFmT Try.prog noOrc (fun _ => none) (fun _ => false) [3, 4, 5, 6] mayET 100000 (cFnL Try.prog) noTab 90 10 mayArgsT) mayOTk91y = true := check_same (Ky := mayOTk92y) (Kn := mayOTk92n) (i := ⟨-9223372036854775808, 9223372036854775807, []⟩) (by kernel_rfl) (by kernel_rfl) (by kernel_rfl) (.inr mayOTh93) (.inr mayOTh98)
theorem mayOTh99 : DT.leaf.check (okF mayFmT Try.prog noOrc (fun _ => none) (fun _ => false) [3, 4, 5, 6] mayET 100000 (cFnL Try.prog) noTab 90 10 mayArgsT) mayOTk91n = true := check_leaf (by kernel_rfl)
def mayOTt91 : DT := .same 1006 (0) mayOTt92 .leaf
theorem mayOTh91 : mayOTt91.check (okF mayFmT Try.prog noOrc (fun _ => none) (fun _ => false) [3, 4, 5, 6] mayET 100000 (cFnL Try.prog) noTab 90 10 mayArgsT) mayOTk90y = true := check_same (Ky := mayOTk91y) (Kn := mayOTk91n) (i := ⟨0, 10000, []⟩) (by kernel_rfl) (by kernel_rfl) (by kernel_rfl) (.inr mayOTh92) (.inr mayOTh99)
theorem mayOTh100 : DT.leaf.check (okF mayFmT Try.prog noOrc (fun _ => none) (fun _ => false) [3, 4, 5, 6] mayET 100000 (cFnL Try.prog) noTab 90 10 mayArgsT) mayOTk90n = true := check_leaf (by kernel_rfl)
def mayOTt90 : DT := .same 1005 (0) mayOTt91 .leaf
theorem mayOTh90 : mayOTt90.check (okF mayFmT Try.prog noOrc (fun _ => none) (fun _ => false) [3, 4, 5, 6] mayET 100000 (cFnL Try.prog) noTab 90 10 mayArgsT) mayOTk89y = true := check_same (Ky := mayOTk90y) (Kn := mayOTk90n) (i := ⟨0, 10000, []⟩) (by kernel_rfl) (by kernel_rfl) (by kernel_rfl) (.inr mayOTh91) (.inr mayOTh100)
def mayOTk101y : KB := mayOTk89n.put 0 ⟨6, 6, []⟩
def mayOTk101n : KB := mayOTk89n.put 0 ⟨7, 7, []⟩
def mayOTk102y : KB := mayOTk101y.put 7 ⟨-9223372036854775808, -1, []⟩
def mayOTk102n : KB := mayOTk101y.put 7 ⟨0, 9223372036854775807, []⟩
theorem mayOTh103 : DT.leaf.check (okF mayFmT Try.prog noOrc (fun _ => none) (fun _ => false) [3, 4, 5, 6] mayET 100000 (cFnL Try.prog) noTab 90 10 mayArgsT) mayOTk102y = true := check_leaf (by kernel_rfl)
def mayOTk104y : KB := mayOTk102n.put 7 ⟨0, 3, []⟩
def mayOTk104n : KB := mayOTk102n.put 7 ⟨4, 9223372036854775807, []⟩
def mayOTk105y : KB := mayOTk104y.put 8 ⟨-9223372036854775808, 0, []⟩
def mayOTk105n : KB := mayOTk104y.put 8 ⟨1, 9223372036854775807, []⟩
theorem mayOTh106 : DT.leaf.check (okF mayFmT Try.prog noOrc (fun _ => none) (fun _ => false) [3, 4, 5, 6] mayET 100000 (cFnL Try.prog) noTab 90 10 mayArgsT) mayOTk105y = true := check_leaf (by kernel_rfl)
def mayOTk107y : KB := mayOTk105n.put 8 ⟨1, 1048576, []⟩
def mayOTk107n : KB := mayOTk105n.put 8 ⟨1048577, 9223372036854775807, []⟩
def mayOTk108y : KB := mayOTk107y.put 1005 ⟨0, 0, []⟩
def mayOTk108n : KB := mayOTk107y.put 1005 ⟨1, 10000, []⟩
def mayOTk109y : KB := mayOTk108y.put 1006 ⟨0, 0, []⟩
def mayOTk109n : KB := mayOTk108y.put 1006 ⟨1, 10000, []⟩
def mayOTk110y : KB := mayOTk109y.put 9 ⟨0, 0, []⟩
def mayOTk110n : KB := mayOTk109y.put 9 ⟨-9223372036854775808, 9223372036854775807, [0]⟩
theorem mayOTh111 : DT.leaf.check (okF mayFmT Try.prog noOrc (fun _ => none) (fun _ => false) [3, 4, 5, 6] mayET 100000 (cFnL Try.prog) noTab 90 10 mayArgsT) mayOTk110y = true := check_leaf (by kernel_rfl)
theorem mayOTh112 : DT.leaf.check (okF mayFmT Try.prog noOrc (fun _ => none) (fun _ => false) [3, 4, 5, 6] mayET 100000 (cFnL Try.prog) noTab 90 10 mayArgsT) mayOTk110n = true := check_leaf (by kernel_rfl)
def mayOTt110 : DT := .same 9 (0) .leaf .leaf
theorem mayOTh110 : mayOTt110.check (okF mayFmT Try.prog noOrc (fun _ => none) (fun _ => false) [3, 4, 5, 6] mayET 100000 (cFnL Try.prog) noTab 90 10 mayArgsT) mayOTk109y = true := check_same (Ky := mayOTk110y) (Kn := mayOTk110n) (i := ⟨-9223372036854775808, 9223372036854775807, []⟩) (by kernel_rfl) (by kernel_rfl) (by kernel_rfl) (.inr mayOTh111) (.inr mayOTh112)
theorem mayOTh113 : DT.leaf.check (okF mayFmT Try.prog noOrc (fun _ => none) (fun _ => false) [3, 4, 5, 6] mayET 100000 (cFnL Try.prog) noTab 90 10 mayArgsT) mayOTk109n = true := check_leaf (by kernel_rfl)
def mayOTt109 : DT := .same 1006 (0) mayOTt110 .leaf
theorem mayOTh109 : mayOTt109.check (okF mayFmT Try.prog noOrc (fun _ => none) (fun _ => false) [3, 4, 5, 6] mayET 100000 (cFnL Try.prog) noTab 90 10 mayArgsT) mayOTk108y = true := check_same (Ky := mayOTk109y) (Kn := mayOTk109n) (i := ⟨0, 10000, []⟩) (by kernel_rfl) (by kernel_rfl) (by kernel_rfl) (.inr mayOTh110) (.inr mayOTh113)
theorem mayOTh114 : DT.leaf.check (okF mayFmT Try.prog noOrc (fun _ => none) (fun _ => false) [3, 4, 5, 6] mayET 100000 (cFnL Try.prog) noTab 90 10 mayArgsT) mayOTk108n = true := check_leaf (by kernel_rfl)
def mayOTt108 : DT := .same 1005 (0) mayOTt109 .leaf
theorem mayOTh108 : mayOTt108.check (okF mayFmT Try.prog noOrc (fun _ => none) (fun _ => false) [3, 4, 5, 6] mayET 100000 (cFnL Try.prog) noTab 90 10 mayArgsT) mayOTk107y = true := check_same (Ky := mayOTk108y) (Kn := mayOTk108n) (i := ⟨0, 10000, []⟩) (by kernel_rfl) (by kernel_rfl) (by kernel_rfl) (.inr mayOTh109) (.inr mayOTh114)
theorem mayOTh115 : DT.leaf.check (okF mayFmT Try.prog noOrc (fun _ => none) (fun _ => false) [3, 4, 5, 6] mayET 100000 (cFnL Try.prog) noTab 90 10 mayArgsT) mayOTk107n = true := check_leaf (by kernel_rfl)
def mayOTt107 : DT := .less 8 (1048577) mayOTt108 .leaf
theorem mayOTh107 : mayOTt107.check (okF mayFmT Try.prog noOrc (fun _ => none) (fun _ => false) [3, 4, 5, 6] mayET 100000 (cFnL Try.prog) noTab 90 10 mayArgsT) mayOTk105n = true := check_less (Ky := mayOTk107y) (Kn := mayOTk107n) (i := ⟨1, 9223372036854775807, []⟩) (by kernel_rfl) (by kernel_rfl) (by kernel_rfl) (.inr mayOTh108) (.inr mayOTh115)
def mayOTt105 : DT := .less 8 (1) .leaf mayOTt107
theorem mayOTh105 : mayOTt105.check (okF mayFmT Try.prog noOrc (fun _ => none) (fun _ => false) [3, 4, 5, 6] mayET 100000 (cFnL Try.prog) noTab 90 10 mayArgsT) mayOTk104y = true := check_less (Ky := mayOTk105y) (Kn := mayOTk105n) (i := ⟨-9223372036854775808, 9223372036854775807, []⟩) (by kernel_rfl) (by kernel_rfl) (by kernel_rfl) (.inr mayOTh106) (.inr mayOTh107)
theorem mayOTh116 : DT.leaf.check (okF mayFmT Try.prog noOrc (fun _ => none) (fun _ => false) [3, 4, 5, 6] mayET 100000 (cFnL Try.prog) noTab 90 10 mayArgsT) mayOTk104n = true := check_leaf (by kernel_rfl)
def mayOTt104 : DT := .less 7 (4) mayOTt105 .leaf
theorem mayOTh104 : mayOTt104.check (okF mayFmT Try.prog noOrc (fun _ => none) (fun _ => false) [3, 4, 5, 6] mayET 100000 (cFnL Try.prog) noTab 90 10 mayArgsT) mayOTk102n = true := check_less (Ky := mayOTk104y) (Kn := mayOTk104n) (i := ⟨0, 9223372036854775807, []⟩) (by kernel_rfl) (by kernel_rfl) (by kernel_rfl) (.inr mayOTh105) (.inr mayOTh116)
def mayOTt102 : DT := .less 7 (0) .leaf mayOTt104
theorem mayOTh102 : mayOTt102.check (okF mayFmT Try.prog noOrc (fun _ => none) (fun _ => false) [3, 4, 5, 6] mayET 100000 (cFnL Try.prog) noTab 90 10 mayArgsT) mayOTk101y = true := check_less (Ky := mayOTk102y) (Kn := mayOTk102n) (i := ⟨-9223372036854775808, 9223372036854775807, []⟩) (by kernel_rfl) (by kernel_rfl) (by kernel_rfl) (.inr mayOTh103) (.inr mayOTh104)
def mayOTk117y : KB := mayOTk101n.put 1005 ⟨0, 0, []⟩
def mayOTk117n : KB := mayOTk101n.put 1005 ⟨1, 10000, []⟩
def mayOTk118y : KB := mayOTk117y.put 1006 ⟨0, 0, []⟩
def mayOTk118n : KB := mayOTk117y.put 1006 ⟨1, 10000, []⟩
def mayOTk119y : KB := mayOTk118y.put 7 ⟨0, 0, []⟩
def mayOTk119n : KB := mayOTk118y.put 7 ⟨-9223372036854775808, 9223372036854775807, [0]⟩
def mayOTk120y : KB := mayOTk119y.put 8 ⟨0, 0, []⟩
def mayOTk120n : KB := mayOTk119y.put 8 ⟨-9223372036854775808, 9223372036854775807, [0]⟩
def mayOTk121y : KB := mayOTk120y.put 9 ⟨0, 0, []⟩
def mayOTk121n : KB := mayOTk120y.put 9 ⟨-9223372036854775808, 9223372036854775807, [0]⟩
theorem mayOTh122 : DT.leaf.check (okF mayFmT Try.prog noOrc (fun _ => none) (fun _ => false) [3, 4, 5, 6] mayET 100000 (cFnL Try.prog) noTab 90 10 mayArgsT) mayOTk121y = true := check_leaf (by kernel_rfl)
theorem mayOTh123 : DT.leaf.check (okF mayFmT Try.prog noOrc (fun _ => none) (fun _ => false) [3, 4, 5, 6] mayET 100000 (cFnL Try.prog) noTab 90 10 mayArgsT) mayOTk121n = true := check_leaf (by kernel_rfl)
def mayOTt121 : DT := .same 9 (0) .leaf .leaf
theorem mayOTh121 : mayOTt121.check (okF mayFmT Try.prog noOrc (fun _ => none) (fun _ => false) [3, 4, 5, 6] mayET 100000 (cFnL Try.prog) noTab 90 10 mayArgsT) mayOTk120y = true := check_same (Ky := mayOTk121y) (Kn := mayOTk121n) (i := ⟨-9223372036854775808, 9223372036854775807, []⟩) (by kernel_rfl) (by kernel_rfl) (by kernel_rfl) (.inr mayOTh122) (.inr mayOTh123)
theorem mayOTh124 : DT.leaf.check (okF mayFmT Try.prog noOrc (fun _ => none) (fun _ => false) [3, 4, 5, 6] mayET 100000 (cFnL Try.prog) noTab 90 10 mayArgsT) mayOTk120n = true := check_leaf (by kernel_rfl)
def mayOTt120 : DT := .same 8 (0) mayOTt121 .leaf
theorem mayOTh120 : mayOTt120.check (okF mayFmT Try.prog noOrc (fun _ => none) (fun _ => false) [3, 4, 5, 6] mayET 100000 (cFnL Try.prog) noTab 90 10 mayArgsT) mayOTk119y = true := check_same (Ky := mayOTk120y) (Kn := mayOTk120n) (i := ⟨-9223372036854775808, 9223372036854775807, []⟩) (by kernel_rfl) (by kernel_rfl) (by kernel_rfl) (.inr mayOTh121) (.inr mayOTh124)
theorem mayOTh125 : DT.leaf.check (okF mayFmT Try.prog noOrc (fun _ => none) (fun _ => false) [3, 4, 5, 6] mayET 100000 (cFnL Try.prog) noTab 90 10 mayArgsT) mayOTk119n = true := check_leaf (by kernel_rfl)
def mayOTt119 : DT := .same 7 (0) mayOTt120 .leaf
theorem mayOTh119 : mayOTt119.check (okF mayFmT Try.prog noOrc (fun _ => none) (fun _ => false) [3, 4, 5, 6] mayET 100000 (cFnL Try.prog) noTab 90 10 mayArgsT) mayOTk118y = true := check_same (Ky := mayOTk119y) (Kn := mayOTk119n) (i := ⟨-9223372036854775808, 9223372036854775807, []⟩) (by kernel_rfl) (by kernel_rfl) (by kernel_rfl) (.inr mayOTh120) (.inr mayOTh125)
theorem mayOTh126 : DT.leaf.check (okF mayFmT Try.prog noOrc (fun _ => none) (fun _ => false) [3, 4, 5, 6] mayET 100000 (cFnL Try.prog) noTab 90 10 mayArgsT) mayOTk118n = true := check_leaf (by kernel_rfl)
def mayOTt118 : DT := .same 1006 (0) mayOTt119 .leaf
theorem mayOTh118 : mayOTt118.check (okF mayFmT Try.prog noOrc (fun _ => none) (fun _ => false) [3, 4, 5, 6] mayET 100000 (cFnL Try.prog) noTab 90 10 mayArgsT) mayOTk117y = true := check_same (Ky := mayOTk118y) (Kn := mayOTk118n) (i := ⟨0, 10000, []⟩) (by kernel_rfl) (by kernel_rfl) (by kernel_rfl) (.inr mayOTh119) (.inr mayOTh126)
theorem mayOTh127 : DT.leaf.check (okF mayFmT Try.prog noOrc (fun _ => none) (fun _ => false) [3, 4, 5, 6] mayET 100000 (cFnL Try.prog) noTab 90 10 mayArgsT) mayOTk117n = true := check_leaf (by kernel_rfl)
def mayOTt117 : DT := .same 1005 (0) mayOTt118 .leaf
theorem mayOTh117 : mayOTt117.check (okF mayFmT Try.prog noOrc (fun _ => none) (fun _ => false) [3, 4, 5, 6] mayET 100000 (cFnL Try.prog) noTab 90 10 mayArgsT) mayOTk101n = true := check_same (Ky := mayOTk117y) (Kn := mayOTk117n) (i := ⟨0, 10000, []⟩) (by kernel_rfl) (by kernel_rfl) (by kernel_rfl) (.inr mayOTh118) (.inr mayOTh127)
def mayOTt101 : DT := .same 0 (6) mayOTt102 mayOTt117
theorem mayOTh101 : mayOTt101.check (okF mayFmT Try.prog noOrc (fun _ => none) (fun _ => false) [3, 4, 5, 6] mayET 100000 (cFnL Try.prog) noTab 90 10 mayArgsT) mayOTk89n = true := check_same (Ky := mayOTk101y) (Kn := mayOTk101n) (i := ⟨6, 7, []⟩) (by kernel_rfl) (by kernel_rfl) (by kernel_rfl) (.inr mayOTh102) (.inr mayOTh117)
def mayOTt89 : DT := .same 0 (5) mayOTt90 mayOTt101
theorem mayOTh89 : mayOTt89.check (okF mayFmT Try.prog noOrc (fun _ => none) (fun _ => false) [3, 4, 5, 6] mayET 100000 (cFnL Try.prog) noTab 90 10 mayArgsT) mayOTk73n = true := check_same (Ky := mayOTk89y) (Kn := mayOTk89n) (i := ⟨5, 7, []⟩) (by kernel_rfl) (by kernel_rfl) (by kernel_rfl) (.inr mayOTh90) (.inr mayOTh101)
def mayOTt73 : DT := .same 0 (4) mayOTt74 mayOTt89
theorem mayOTh73 : mayOTt73.check (okF mayFmT Try.prog noOrc (fun _ => none) (fun _ => false) [3, 4, 5, 6] mayET 100000 (cFnL Try.prog) noTab 90 10 mayArgsT) mayOTk51n = true := check_same (Ky := mayOTk73y) (Kn := mayOTk73n) (i := ⟨4, 7, []⟩) (by kernel_rfl) (by kernel_rfl) (by kernel_rfl) (.inr mayOTh74) (.inr mayOTh89)
def mayOTt51 : DT := .same 0 (3) mayOTt52 mayOTt73
theorem mayOTh51 : mayOTt51.check (okF mayFmT Try.prog noOrc (fun _ => none) (fun _ => false) [3, 4, 5, 6] mayET 100000 (cFnL Try.prog) noTab 90 10 mayArgsT) mayOTk31n = true := check_same (Ky := mayOTk51y) (Kn := mayOTk51n) (i := ⟨3, 7, []⟩) (by kernel_rfl) (by kernel_rfl) (by kernel_rfl) (.inr mayOTh52) (.inr mayOTh73)
def mayOTt31 : DT := .same 0 (2) mayOTt32 mayOTt51
theorem mayOTh31 : mayOTt31.check (okF mayFmT Try.prog noOrc (fun _ => none) (fun _ => false) [3, 4, 5, 6] mayET 100000 (cFnL Try.prog) noTab 90 10 mayArgsT) mayOTk15n = true := check_same (Ky := mayOTk31y) (Kn := mayOTk31n) (i := ⟨2, 7, []⟩) (by kernel_rfl) (by kernel_rfl) (by kernel_rfl) (.inr mayOTh32) (.inr mayOTh51)
def mayOTt15 : DT := .same 0 (1) mayOTt16 mayOTt31
theorem mayOTh15 : mayOTt15.check (okF mayFmT Try.prog noOrc (fun _ => none) (fun _ => false) [3, 4, 5, 6] mayET 100000 (cFnL Try.prog) noTab 90 10 mayArgsT) mayOTk14y = true := check_same (Ky := mayOTk15y) (Kn := mayOTk15n) (i := ⟨1, 7, []⟩) (by kernel_rfl) (by kernel_rfl) (by kernel_rfl) (.inr mayOTh16) (.inr mayOTh31)
theorem mayOTh128 : DT.leaf.check (okF mayFmT Try.prog noOrc (fun _ => none) (fun _ => false) [3, 4, 5, 6] mayET 100000 (cFnL Try.prog) noTab 90 10 mayArgsT) mayOTk14n = true := check_leaf (by kernel_rfl)
def mayOTt14 : DT := .less 1004 (17) mayOTt15 .leaf
theorem mayOTh14 : mayOTt14.check (okF mayFmT Try.prog noOrc (fun _ => none) (fun _ => false) [3, 4, 5, 6] mayET 100000 (cFnL Try.prog) noTab 90 10 mayArgsT) mayOTk12n = true := check_less (Ky := mayOTk14y) (Kn := mayOTk14n) (i := ⟨1, 10000, []⟩) (by kernel_rfl) (by kernel_rfl) (by kernel_rfl) (.inr mayOTh15) (.inr mayOTh128)
def mayOTt12 : DT := .less 1004 (1) .leaf mayOTt14
theorem mayOTh12 : mayOTt12.check (okF mayFmT Try.prog noOrc (fun _ => none) (fun _ => false) [3, 4, 5, 6] mayET 100000 (cFnL Try.prog) noTab 90 10 mayArgsT) mayOTk11y = true := check_less (Ky := mayOTk12y) (Kn := mayOTk12n) (i := ⟨0, 10000, []⟩) (by kernel_rfl) (by kernel_rfl) (by kernel_rfl) (.inr mayOTh13) (.inr mayOTh14)
theorem mayOTh129 : DT.leaf.check (okF mayFmT Try.prog noOrc (fun _ => none) (fun _ => false) [3, 4, 5, 6] mayET 100000 (cFnL Try.prog) noTab 90 10 mayArgsT) mayOTk11n = true := check_leaf (by kernel_rfl)
def mayOTt11 : DT := .less 1003 (17) mayOTt12 .leaf
theorem mayOTh11 : mayOTt11.check (okF mayFmT Try.prog noOrc (fun _ => none) (fun _ => false) [3, 4, 5, 6] mayET 100000 (cFnL Try.prog) noTab 90 10 mayArgsT) mayOTk9n = true := check_less (Ky := mayOTk11y) (Kn := mayOTk11n) (i := ⟨1, 10000, []⟩) (by kernel_rfl) (by kernel_rfl) (by kernel_rfl) (.inr mayOTh12) (.inr mayOTh129)
def mayOTt9 : DT := .less 1003 (1) .leaf mayOTt11
theorem mayOTh9 : mayOTt9.check (okF mayFmT Try.prog noOrc (fun _ => none) (fun _ => false) [3, 4, 5, 6] mayET 100000 (cFnL Try.prog) noTab 90 10 mayArgsT) mayOTk8y = true := check_less (Ky := mayOTk9y) (Kn := mayOTk9n) (i := ⟨0, 10000, []⟩) (by kernel_rfl) (by kernel_rfl) (by kernel_rfl) (.inr mayOTh10) (.inr mayOTh11)
theorem mayOTh130 : DT.leaf.check (okF mayFmT Try.prog noOrc (fun _ => none) (fun _ => false) [3, 4, 5, 6] mayET 100000 (cFnL Try.prog) noTab 90 10 mayArgsT) mayOTk8n = true := check_leaf (by kernel_rfl)
def mayOTt8 : DT := .less 2 (1099511627777) mayOTt9 .leaf
theorem mayOTh8 : mayOTt8.check (okF mayFmT Try.prog noOrc (fun _ => none) (fun _ => false) [3, 4, 5, 6] mayET 100000 (cFnL Try.prog) noTab 90 10 mayArgsT) mayOTk6n = true := check_less (Ky := mayOTk8y) (Kn := mayOTk8n) (i := ⟨1, 9223372036854775807, []⟩) (by kernel_rfl) (by kernel_rfl) (by kernel_rfl) (.inr mayOTh9) (.inr mayOTh130)
def mayOTt6 : DT := .less 2 (1) .leaf mayOTt8
theorem mayOTh6 : mayOTt6.check (okF mayFmT Try.prog noOrc (fun _ => none) (fun _ => false) [3, 4, 5, 6] mayET 100000 (cFnL Try.prog) noTab 90 10 mayArgsT) mayOTk5y = true := check_less (Ky := mayOTk6y) (Kn := mayOTk6n) (i := ⟨-9223372036854775808, 9223372036854775807, []⟩) (by kernel_rfl) (by kernel_rfl) (by kernel_rfl) (.inr mayOTh7) (.inr mayOTh8)
theorem mayOTh131 : DT.leaf.check (okF mayFmT Try.prog noOrc (fun _ => none) (fun _ => false) [3, 4, 5, 6] mayET 100000 (cFnL Try.prog) noTab 90 10 mayArgsT) mayOTk5n = true := check_leaf (by kernel_rfl)
def mayOTt5 : DT := .less 1 (1048577) mayOTt6 .leaf
theorem mayOTh5 : mayOTt5.check (okF mayFmT Try.prog noOrc (fun _ => none) (fun _ => false) [3, 4, 5, 6] mayET 100000 (cFnL Try.prog) noTab 90 10 mayArgsT) mayOTk3n = true := check_less (Ky := mayOTk5y) (Kn := mayOTk5n) (i := ⟨1, 9223372036854775807, []⟩) (by kernel_rfl) (by kernel_rfl) (by kernel_rfl) (.inr mayOTh6) (.inr mayOTh131)
def mayOTt3 : DT := .less 1 (1) .leaf mayOTt5
theorem mayOTh3 : mayOTt3.check (okF mayFmT Try.prog noOrc (fun _ => none) (fun _ => false) [3, 4, 5, 6] mayET 100000 (cFnL Try.prog) noTab 90 10 mayArgsT) mayOTk2y = true := check_less (Ky := mayOTk3y) (Kn := mayOTk3n) (i := ⟨-9223372036854775808, 9223372036854775807, []⟩) (by kernel_rfl) (by kernel_rfl) (by kernel_rfl) (.inr mayOTh4) (.inr mayOTh5)
theorem mayOTh132 : DT.leaf.check (okF mayFmT Try.prog noOrc (fun _ => none) (fun _ => false) [3, 4, 5, 6] mayET 100000 (cFnL Try.prog) noTab 90 10 mayArgsT) mayOTk2n = true := check_leaf (by kernel_rfl)
def mayOTt2 : DT := .less 0 (8) mayOTt3 .leaf
theorem mayOTh2 : mayOTt2.check (okF mayFmT Try.prog noOrc (fun _ => none) (fun _ => false) [3, 4, 5, 6] mayET 100000 (cFnL Try.prog) noTab 90 10 mayArgsT) mayOTk0n = true := check_less (Ky := mayOTk2y) (Kn := mayOTk2n) (i := ⟨1, 9223372036854775807, []⟩) (by kernel_rfl) (by kernel_rfl) (by kernel_rfl) (.inr mayOTh3) (.inr mayOTh132)
def mayOTt0 : DT := .less 0 (1) .leaf mayOTt2
theorem mayOTh0 : mayOTt0.check (okF mayFmT Try.prog noOrc (fun _ => none) (fun _ => false) [3, 4, 5, 6] mayET 100000 (cFnL Try.prog) noTab 90 10 mayArgsT) mayKB = true := check_less (Ky := mayOTk0y) (Kn := mayOTk0n) (i := ⟨-9223372036854775808, 9223372036854775807, []⟩) (by kernel_rfl) (by kernel_rfl) (by kernel_rfl) (.inr mayOTh1) (.inr mayOTh2)
theorem mayOTCheck : mayOTt0.check (okF mayFmT Try.prog noOrc (fun _ => none) (fun _ => false) [3, 4, 5, 6] mayET 100000 (cFnL Try.prog) noTab 90 10 mayArgsT) mayKB = true := mayOTh0
end Go.Proofs.Ytblknjclkecglaa
