/- What may be a request: satrapy/satrapyref10.May: a tree of questions. -/
import Derived.Test.YtblknjclkecglaaMayA
import Derived.ProofKit
namespace Go.Proofs.Ytblknjclkecglaa
open Go.RowKit
set_option linter.unusedVariables false
set_option linter.unusedSimpArgs false
set_option maxRecDepth 100000

def mayRTk0y : KB := mayKB.put 1 ⟨-9223372036854775808, 0, []⟩
def mayRTk0n : KB := mayKB.put 1 ⟨1, 9223372036854775807, []⟩
theorem mayRTh1 : DT.leaf.check (okF mayFmT Try.prog noOrc (fun _ => none) (fun _ => false) [3, 4, 5, 6] mayET 100000 (cFnL Try.prog) noTab 90 19 mayArgsT) mayRTk0y = true := check_leaf (by kernel_rfl)
def mayRTk2y : KB := mayRTk0n.put 1 ⟨1, 1048576, []⟩
def mayRTk2n : KB := mayRTk0n.put 1 ⟨1048577, 9223372036854775807, []⟩
def mayRTk3y : KB := mayRTk2y.put 2 ⟨-9223372036854775808, 0, []⟩
def mayRTk3n : KB := mayRTk2y.put 2 ⟨1, 9223372036854775807, []⟩
theorem mayRTh4 : DT.leaf.check (okF mayFmT Try.prog noOrc (fun _ => none) (fun _ => false) [3, 4, 5, 6] mayET 100000 (cFnL Try.prog) noTab 90 19 mayArgsT) mayRTk3y = true := check_leaf (by kernel_rfl)
def mayRTk5y : KB := mayRTk3n.put 2 ⟨1, 1099511627776, []⟩
def mayRTk5n : KB := mayRTk3n.put 2 ⟨1099511627777, 9223372036854775807, []⟩
def mayRTk6y : KB := mayRTk5y.put 1003 ⟨0, 0, []⟩
def mayRTk6n : KB := mayRTk5y.put 1003 ⟨1, 10000, []⟩
theorem mayRTh7 : DT.leaf.check (okF mayFmT Try.prog noOrc (fun _ => none) (fun _ => false) [3, 4, 5, 6] mayET 100000 (cFnL Try.prog) noTab 90 19 mayArgsT) mayRTk6y = true := check_leaf (by kernel_rfl)
def mayRTk8y : KB := mayRTk6n.put 1003 ⟨1, 16, []⟩
def mayRTk8n : KB := mayRTk6n.put 1003 ⟨17, 10000, []⟩
def mayRTk9y : KB := mayRTk8y.put 1004 ⟨0, 0, []⟩
def mayRTk9n : KB := mayRTk8y.put 1004 ⟨1, 10000, []⟩
theorem mayRTh10 : DT.leaf.check (okF mayFmT Try.prog noOrc (fun _ => none) (fun _ => false) [3, 4, 5, 6] mayET 100000 (cFnL Try.prog) noTab 90 19 mayArgsT) mayRTk9y = true := check_leaf (by kernel_rfl)
def mayRTk11y : KB := mayRTk9n.put 1004 ⟨1, 16, []⟩
def mayRTk11n : KB := mayRTk9n.put 1004 ⟨17, 10000, []⟩
def mayRTk12y : KB := mayRTk11y.put 0 ⟨1, 1, []⟩
def mayRTk12n : KB := mayRTk11y.put 0 ⟨-9223372036854775808, 9223372036854775807, [1]⟩
def mayRTk13y : KB := mayRTk12y.put 7 ⟨-9223372036854775808, -1, []⟩
def mayRTk13n : KB := mayRTk12y.put 7 ⟨0, 9223372036854775807, []⟩
theorem mayRTh14 : DT.leaf.check (okF mayFmT Try.prog noOrc (fun _ => none) (fun _ => false) [3, 4, 5, 6] mayET 100000 (cFnL Try.prog) noTab 90 19 mayArgsT) mayRTk13y = true := check_leaf (by kernel_rfl)
def mayRTk15y : KB := mayRTk13n.put 7 ⟨0, 3, []⟩
def mayRTk15n : KB := mayRTk13n.put 7 ⟨4, 9223372036854775807, []⟩
def mayRTk16y : KB := mayRTk15y.put 8 ⟨-9223372036854775808, 0, []⟩
def mayRTk16n : KB := mayRTk15y.put 8 ⟨1, 9223372036854775807, []⟩
theorem mayRTh17 : DT.leaf.check (okF mayFmT Try.prog noOrc (fun _ => none) (fun _ => false) [3, 4, 5, 6] mayET 100000 (cFnL Try.prog) noTab 90 19 mayArgsT) mayRTk16y = true := check_leaf (by kernel_rfl)
def mayRTk18y : KB := mayRTk16n.put 8 ⟨1, 1048576, []⟩
def mayRTk18n : KB := mayRTk16n.put 8 ⟨1048577, 9223372036854775807, []⟩
def mayRTk19y : KB := mayRTk18y.put 1005 ⟨0, 0, []⟩
def mayRTk19n : KB := mayRTk18y.put 1005 ⟨1, 10000, []⟩
def mayRTk20y : KB := mayRTk19y.put 1006 ⟨0, 0, []⟩
def mayRTk20n : KB := mayRTk19y.put 1006 ⟨1, 10000, []⟩
def mayRTk21y : KB := mayRTk20y.put 9 ⟨0, 0, []⟩
def mayRTk21n : KB := mayRTk20y.put 9 ⟨-9223372036854775808, 9223372036854775807, [0]⟩
theorem mayRTh22 : DT.leaf.check (okF mayFmT Try.prog noOrc (fun _ => none) (fun _ => false) [3, 4, 5, 6] mayET 100000 (cFnL Try.prog) noTab 90 19 mayArgsT) mayRTk21y = true := check_leaf (by kernel_rfl)
theorem mayRTh23 : DT.leaf.check (okF mayFmT Try.prog noOrc (fun _ => none) (fun _ => false) [3, 4, 5, 6] mayET 100000 (cFnL Try.prog) noTab 90 19 mayArgsT) mayRTk21n = true := check_leaf (by kernel_rfl)
def mayRTt21 : DT := .same 9 (0) .leaf .leaf
theorem mayRTh21 : mayRTt21.check (okF mayFmT Try.prog noOrc (fun _ => none) (fun _ => false) [3, 4, 5, 6] mayET 100000 (cFnL Try.prog) noTab 90 19 mayArgsT) mayRTk20y = true := check_same (Ky := mayRTk21y) (Kn := mayRTk21n) (i := ⟨-9223372036854775808, 9223372036854775807, []⟩) (by kernel_rfl) (by kernel_rfl) (by kernel_rfl) (.inr mayRTh22) (.inr mayRTh23)
theorem mayRTh24 : DT.leaf.check (okF mayFmT Try.prog noOrc (fun _ => none) (fun _ => false) [3, 4, 5, 6] mayET 100000 (cFnL Try.prog) noTab 90 19 mayArgsT) mayRTk20n = true := check_leaf (by kernel_rfl)
def mayRTt20 : DT := .same 1006 (0) mayRTt21 .leaf
theorem mayRTh20 : mayRTt20.check (okF mayFmT Try.prog noOrc (fun _ => none) (fun _ => false) [3, 4, 5, 6] mayET 100000 (cFnL Try.prog) noTab 90 19 mayArgsT) mayRTk19y = true := check_same (Ky := mayRTk20y) (Kn := mayRTk20n) (i := ⟨0, 10000, []⟩) (by kernel_rfl) (by kernel_rfl) (by kernel_rfl) (.inr mayRTh21) (.inr mayRTh24)
theorem mayRTh25 : DT.leaf.check (okF mayFmT Try.prog noOrc (fun _ => none) (fun _ => false) [3, 4, 5, 6] mayET 100000 (cFnL Try.prog) noTab 90 19 mayArgsT) mayRTk19n = true := check_leaf (by kernel_rfl)
def mayRTt19 : DT := .same 1005 (0) mayRTt20 .leaf
theorem mayRTh19 : mayRTt19.check (okF mayFmT Try.prog noOrc (fun _ => none) (fun _ => false) [3, 4, 5, 6] mayET 100000 (cFnL Try.prog) noTab 90 19 mayArgsT) mayRTk18y = true := check_same (Ky := mayRTk19y) (Kn := mayRTk19n) (i := ⟨0, 10000, []⟩) (by kernel_rfl) (by kernel_rfl) (by kernel_rfl) (.inr mayRTh20) (.inr mayRTh25)
theorem mayRTh26 : DT.leaf.check (okF mayFmT Try.prog noOrc (fun _ => none) (fun _ => false) [3, 4, 5, 6] mayET 100000 (cFnL Try.prog) noTab 90 19 mayArgsT) mayRTk18n = true := check_leaf (by kernel_rfl)
def mayRTt18 : DT := .less 8 (1048577) mayRTt19 .leaf
theorem mayRTh18 : mayRTt18.check (okF mayFmT Try.prog noOrc (fun _ => none) (fun _ => false) [3, 4, 5, 6] mayET 100000 (cFnL Try.prog) noTab 90 19 mayArgsT) mayRTk16n = true := check_less (Ky := mayRTk18y) (Kn := mayRTk18n) (i := ⟨1, 9223372036854775807, []⟩) (by kernel_rfl) (by kernel_rfl) (by kernel_rfl) (.inr mayRTh19) (.inr mayRTh26)
def mayRTt16 : DT := .less 8 (1) .leaf mayRTt18
theorem mayRTh16 : mayRTt16.check (okF mayFmT Try.prog noOrc (fun _ => none) (fun _ => false) [3, 4, 5, 6] mayET 100000 (cFnL Try.prog) noTab 90 19 mayArgsT) mayRTk15y = true := check_less (Ky := mayRTk16y) (Kn := mayRTk16n) (i := ⟨-9223372036854775808, 9223372036854775807, []⟩) (by kernel_rfl) (by kernel_rfl) (by kernel_rfl) (.inr mayRTh17) (.inr mayRTh18)
theorem mayRTh27 : DT.leaf.check (okF mayFmT Try.prog noOrc (fun _ => none) (fun _ => false) [3, 4, 5, 6] mayET 100000 (cFnL Try.prog) noTab 90 19 mayArgsT) mayRTk15n = true := check_leaf (by kernel_rfl)
def mayRTt15 : DT := .less 7 (4) mayRTt16 .leaf
theorem mayRTh15 : mayRTt15.check (okF mayFmT Try.prog noOrc (fun _ => none) (fun _ => false) [3, 4, 5, 6] mayET 100000 (cFnL Try.prog) noTab 90 19 mayArgsT) mayRTk13n = true := check_less (Ky := mayRTk15y) (Kn := mayRTk15n) (i := ⟨0, 9223372036854775807, []⟩) (by kernel_rfl) (by kernel_rfl) (by kernel_rfl) (.inr mayRTh16) (.inr mayRTh27)
def mayRTt13 : DT := .less 7 (0) .leaf mayRTt15
theorem mayRTh13 : mayRTt13.check (okF mayFmT Try.prog noOrc (fun _ => none) (fun _ => false) [3, 4, 5, 6] mayET 100000 (cFnL Try.prog) noTab 90 19 mayArgsT) mayRTk12y = true := check_less (Ky := mayRTk13y) (Kn := mayRTk13n) (i := ⟨-9223372036854775808, 9223372036854775807, []⟩) (by kernel_rfl) (by kernel_rfl) (by kernel_rfl) (.inr mayRTh14) (.inr mayRTh15)
def mayRTk28y : KB := mayRTk12n.put 0 ⟨6, 6, [1]⟩
def mayRTk28n : KB := mayRTk12n.put 0 ⟨-9223372036854775808, 9223372036854775807, [6, 1]⟩
def mayRTk29y : KB := mayRTk28y.put 7 ⟨-9223372036854775808, -1, []⟩
def mayRTk29n : KB := mayRTk28y.put 7 ⟨0, 9223372036854775807, []⟩
theorem mayRTh30 : DT.leaf.check (okF mayFmT Try.prog noOrc (fun _ => none) (fun _ => false) [3, 4, 5, 6] mayET 100000 (cFnL Try.prog) noTab 90 19 mayArgsT) mayRTk29y = true := check_leaf (by kernel_rfl)
def mayRTk31y : KB := mayRTk29n.put 7 ⟨0, 3, []⟩
def mayRTk31n : KB := mayRTk29n.put 7 ⟨4, 9223372036854775807, []⟩
def mayRTk32y : KB := mayRTk31y.put 8 ⟨-9223372036854775808, 0, []⟩
def mayRTk32n : KB := mayRTk31y.put 8 ⟨1, 9223372036854775807, []⟩
theorem mayRTh33 : DT.leaf.check (okF mayFmT Try.prog noOrc (fun _ => none) (fun _ => false) [3, 4, 5, 6] mayET 100000 (cFnL Try.prog) noTab 90 19 mayArgsT) mayRTk32y = true := check_leaf (by kernel_rfl)
def mayRTk34y : KB := mayRTk32n.put 8 ⟨1, 1048576, []⟩
def mayRTk34n : KB := mayRTk32n.put 8 ⟨1048577, 9223372036854775807, []⟩
def mayRTk35y : KB := mayRTk34y.put 1005 ⟨0, 0, []⟩
def mayRTk35n : KB := mayRTk34y.put 1005 ⟨1, 10000, []⟩
def mayRTk36y : KB := mayRTk35y.put 1006 ⟨0, 0, []⟩
def mayRTk36n : KB := mayRTk35y.put 1006 ⟨1, 10000, []⟩
def mayRTk37y : KB := mayRTk36y.put 9 ⟨0, 0, []⟩
def mayRTk37n : KB := mayRTk36y.put 9 ⟨-9223372036854775808, 9223372036854775807, [0]⟩
theorem mayRTh38 : DT.leaf.check (okF mayFmT Try.prog noOrc (fun _ => none) (fun _ => false) [3, 4, 5, 6] mayET 100000 (cFnL Try.prog) noTab 90 19 mayArgsT) mayRTk37y = true := check_leaf (by kernel_rfl)
theorem mayRTh39 : DT.leaf.check (okF mayFmT Try.prog noOrc (fun _ => none) (fun _ => false) [3, 4, 5, 6] mayET 100000 (cFnL Try.prog) noTab 90 19 mayArgsT) mayRTk37n = true := check_leaf (by kernel_rfl)
def mayRTt37 : DT := .same 9 (0) .leaf .leaf
theorem mayRTh37 : mayRTt37.check (okF mayFmT Try.prog noOrc (fun _ => none) (fun _ => false) [3, 4, 5, 6] mayET 100000 (cFnL Try.prog) noTab 90 19 mayArgsT) mayRTk36y = true := check_same (Ky := mayRTk37y) (Kn := mayRTk37n) (i := ⟨-9223372036854775808, 9223372036854775807, []⟩) (by kernel_rfl) (by kernel_rfl) (by kernel_rfl) (.inr mayRTh38) (.inr mayRTh39)
theorem mayRTh40 : DT.leaf.check (okF mayFmT Try.prog noOrc (fun _ => none) (fun _ => false) [3, 4, 5, 6] mayET 100000 (cFnL Try.prog) noTab 90 19 mayArgsT) mayRTk36n = true := check_leaf (by kernel_rfl)
def mayRTt36 : DT := .same 1006 (0) mayRTt37 .leaf
theorem mayRTh36 : mayRTt36.check (okF mayFmT Try.prog noOrc (fun _ => none) (fun _ => false) [3, 4, 5, 6] mayET 100000 (cFnL Try.prog) noTab 90 19 mayArgsT) mayRTk35y = true := check_same (Ky := mayRTk36y) (Kn := mayRTk36n) (i := ⟨0, 10000, []⟩) (by kernel_rfl) (by kernel_rfl) (by kernel_rfl) (.inr mayRTh37) (.inr mayRTh40)
theorem mayRTh41 : DT.leaf.check (okF mayFmT Try.prog noOrc (fun _ => none) (fun _ => false) [3, 4, 5, 6] mayET 100000 (cFnL Try.prog) noTab 90 19 mayArgsT) mayRTk35n = true := check_leaf (by kernel_rfl)
def mayRTt35 : DT := .same 1005 (0) mayRTt36 .leaf
theorem mayRTh35 : mayRTt35.check (okF mayFmT Try.prog noOrc (fun _ => none) (fun _ => false) [3, 4, 5, 6] mayET 100000 (cFnL Try.prog) noTab 90 19 mayArgsT) mayRTk34y = true := check_same (Ky := mayRTk35y) (Kn := mayRTk35n) (i := ⟨0, 10000, []⟩) (by kernel_rfl) (by kernel_rfl) (by kernel_rfl) (.inr mayRTh36) (.inr mayRTh41)
theorem mayRTh42 : DT.leaf.check (okF mayFmT Try.prog noOrc (fun _ => none) (fun _ => false) [3, 4, 5, 6] mayET 100000 (cFnL Try.prog) noTab 90 19 mayArgsT) mayRTk34n = true := check_leaf (by kernel_rfl)
def mayRTt34 : DT := .less 8 (1048577) mayRTt35 .leaf
theorem mayRTh34 : mayRTt34.check (okF mayFmT Try.prog noOrc (fun _ => none) (fun _ => false) [3, 4, 5, 6] mayET 100000 (cFnL Try.prog) noTab 90 19 mayArgsT) mayRTk32n = true := check_less (Ky := mayRTk34y) (Kn := mayRTk34n) (i := ⟨1, 9223372036854775807, []⟩) (by kernel_rfl) (by kernel_rfl) (by kernel_rfl) (.inr mayRTh35) (.inr mayRTh42)
def mayRTt32 : DT := .less 8 (1) .leaf mayRTt34
theorem mayRTh32 : mayRTt32.check (okF mayFmT Try.prog noOrc (fun _ => none) (fun _ => false) [3, 4, 5, 6] mayET 100000 (cFnL Try.prog) noTab 90 19 mayArgsT) mayRTk31y = true := check_less (Ky := mayRTk32y) (Kn := mayRTk32n) (i := ⟨-9223372036854775808, 9223372036854775807, []⟩) (by kernel_rfl) (by kernel_rfl) (by kernel_rfl) (.inr mayRTh33) (.inr mayRTh34)
theorem mayRTh43 : DT.leaf.check (okF mayFmT Try.prog noOrc (fun _ => none) (fun _ => false) [3, 4, 5, 6] mayET 100000 (cFnL Try.prog) noTab 90 19 mayArgsT) mayRTk31n = true := check_leaf (by kernel_rfl)
def mayRTt31 : DT := .less 7 (4) mayRTt32 .leaf
theorem mayRTh31 : mayRTt31.check (okF mayFmT Try.prog noOrc (fun _ => none) (fun _ => false) [3, 4, 5, 6] mayET 100000 (cFnL Try.prog) noTab 90 19 mayArgsT) mayRTk29n = true := check_less (Ky := mayRTk31y) (Kn := mayRTk31n) (i := ⟨0, 9223372036854775807, []⟩) (by kernel_rfl) (by kernel_rfl) (by kernel_rfl) (.inr mayRTh32) (.inr mayRTh43)
def mayRTt29 : DT := .less 7 (0) .leaf mayRTt31
theorem mayRTh29 : mayRTt29.check (okF mayFmT Try.prog noOrc (fun _ => none) (fun _ => false) [3, 4, 5, 6] mayET 100000 (cFnL Try.prog) noTab 90 19 mayArgsT) mayRTk28y = true := check_less (Ky := mayRTk29y) (Kn := mayRTk29n) (i := ⟨-9223372036854775808, 9223372036854775807, []⟩) (by kernel_rfl) (by kernel_rfl) (by kernel_rfl) (.inr mayRTh30) (.inr mayRTh31)
def mayRTk44y : KB := mayRTk28n.put 0 ⟨2, 2, [6, 1]⟩
def mayRTk44n : KB := mayRTk28n.put 0 ⟨-9223372036854775808, 9223372036854775807, [2, 6, 1]⟩
def mayRTk45y : KB := mayRTk44y.put 7 ⟨-9223372036854775808, -1, []⟩
def mayRTk45n : KB := mayRTk44y.put 7 ⟨0, 9223372036854775807, []⟩
theorem mayRTh46 : DT.leaf.check (okF mayFmT Try.prog noOrc (fun _ => none) (fun _ => false) [3, 4, 5, 6] mayET 100000 (cFnL Try.prog) noTab 90 19 mayArgsT) mayRTk45y = true := check_leaf (by kernel_rfl)
def mayRTk47y : KB := mayRTk45n.put 7 ⟨0, 3, []⟩
def mayRTk47n : KB := mayRTk45n.put 7 ⟨4, 9223372036854775807, []⟩
def mayRTk48y : KB := mayRTk47y.put 8 ⟨-9223372036854775808, 0, []⟩
def mayRTk48n : KB := mayRTk47y.put 8 ⟨1, 9223372036854775807, []⟩
theorem mayRTh49 : DT.leaf.check (okF mayFmT Try.prog noOrc (fun _ => none) (fun _ => false) [3, 4, 5, 6] mayET 100000 (cFnL Try.prog) noTab 90 19 mayArgsT) mayRTk48y = true := check_leaf (by kernel_rfl)
def mayRTk50y : KB := mayRTk48n.put 8 ⟨1, 1048576, []⟩
def mayRTk50n : KB := mayRTk48n.put 8 ⟨1048577, 9223372036854775807, []⟩
def mayRTk51y : KB := mayRTk50y.put 1005 ⟨0, 0, []⟩
def mayRTk51n : KB := mayRTk50y.put 1005 ⟨1, 10000, []⟩
theorem mayRTh52 : DT.leaf.check (okF mayFmT Try.prog noOrc (fun _ => none) (fun _ => false) [3, 4, 5, 6] mayET 100000 (cFnL Try.prog) noTab 90 19 mayArgsT) mayRTk51y = true := check_leaf (by kernel_rfl)
def mayRTk53y : KB := mayRTk51n.put 1005 ⟨1, 16, []⟩
def mayRTk53n : KB := mayRTk51n.put 1005 ⟨17, 10000, []⟩
def mayRTk54y : KB := mayRTk53y.put 1006 ⟨0, 0, []⟩
def mayRTk54n : KB := mayRTk53y.put 1006 ⟨1, 10000, []⟩
theorem mayRTh55 : DT.leaf.check (okF mayFmT Try.prog noOrc (fun _ => none) (fun _ => false) [3, 4, 5, 6] mayET 100000 (cFnL Try.prog) noTab 90 19 mayArgsT) mayRTk54y = true := check_leaf (by kernel_rfl)
def mayRTk56y : KB := mayRTk54n.put 1006 ⟨1, 16, []⟩
def mayRTk56n : KB := mayRTk54n.put 1006 ⟨17, 10000, []⟩
def mayRTk57y : KB := mayRTk56y.put 9 ⟨0, 0, []⟩
def mayRTk57n : KB := mayRTk56y.put 9 ⟨-9223372036854775808, 9223372036854775807, [0]⟩
theorem mayRTh58 : DT.leaf.check (okF mayFmT Try.prog noOrc (fun _ => none) (fun _ => false) [3, 4, 5, 6] mayET 100000 (cFnL Try.prog) noTab 90 19 mayArgsT) mayRTk57y = true := check_leaf (by kernel_rfl)
theorem mayRTh59 : DT.leaf.check (okF mayFmT Try.prog noOrc (fun _ => none) (fun _ => false) [3, 4, 5, 6] mayET 100000 (cFnL Try.prog) noTab 90 19 mayArgsT) mayRTk57n = true := check_leaf (by kernel_rfl)
def mayRTt57 : DT := .same 9 (0) .leaf .leaf
theorem mayRTh57 : mayRTt57.check (okF mayFmT Try.prog noOrc (fun _ => none) (fun _ => false) [3, 4, 5, 6] mayET 100000 (cFnL Try.prog) noTab 90 19 mayArgsT) mayRTk56y = true := check_same (Ky := mayRTk57y) (Kn := mayRTk57n) (i := ⟨-9223372036854775808, 9223372036854775807, []⟩) (by kernel_rfl) (by kernel_rfl) (by kernel_rfl) (.inr mayRTh58) (.inr mayRTh59)
theorem mayRTh60 : DT.leaf.check (okF mayFmT Try.prog noOrc (fun _ => none) (fun _ => false) [3, 4, 5, 6] mayET 100000 (cFnL Try.prog) noTab 90 19 mayArgsT) mayRTk56n = true := check_leaf (by kernel_rfl)
def mayRTt56 : DT := .less 1006 (17) mayRTt57 .leaf
theorem mayRTh56 : mayRTt56.check (okF mayFmT Try.prog noOrc (fun _ => none) (fun _ => false) [3, 4, 5, 6] mayET 100000 (cFnL Try.prog) noTab 90 19 mayArgsT) mayRTk54n = true := check_less (Ky := mayRTk56y) (Kn := mayRTk56n) (i := ⟨1, 10000, []⟩) (by kernel_rfl) (by kernel_rfl) (by kernel_rfl) (.inr mayRTh57) (.inr mayRTh60)
def mayRTt54 : DT := .less 1006 (1) .leaf mayRTt56
theorem mayRTh54 : mayRTt54.check (okF mayFmT Try.prog noOrc (fun _ => none) (fun _ => false) [3, 4, 5, 6] mayET 100000 (cFnL Try.prog) noTab 90 19 mayArgsT) mayRTk53y = true := check_less (Ky := mayRTk54y) (Kn := mayRTk54n) (i := ⟨0, 10000, []⟩) (by kernel_rfl) (by kernel_rfl) (by kernel_rfl) (.inr mayRTh55) (.inr mayRTh56)
theorem mayRTh61 : DT.leaf.check (okF mayFmT Try.prog noOrc (fun _ => none) (fun _ => false) [3, 4, 5, 6] mayET 100000 (cFnL Try.prog) noTab 90 19 mayArgsT) mayRTk53n = true := check_leaf (by kernel_rfl)
def mayRTt53 : DT := .less 1005 (17) mayRTt54 .leaf
theorem mayRTh53 : mayRTt53.check (okF mayFmT Try.prog noOrc (fun _ => none) (fun _ => false) [3, 4, 5, 6] mayET 100000 (cFnL Try.prog) noTab 90 19 mayArgsT) mayRTk51n = true := check_less (Ky := mayRTk53y) (Kn := mayRTk53n) (i := ⟨1, 10000, []⟩) (by kernel_rfl) (by kernel_rfl) (by kernel_rfl) (.inr mayRTh54) (.inr mayRTh61)
def mayRTt51 : DT := .less 1005 (1) .leaf mayRTt53
theorem mayRTh51 : mayRTt51.check (okF mayFmT Try.prog noOrc (fun _ => none) (fun _ => false) [3, 4, 5, 6] mayET 100000 (cFnL Try.prog) noTab 90 19 mayArgsT) mayRTk50y = true := check_less (Ky := mayRTk51y) (Kn := mayRTk51n) (i := ⟨0, 10000, []⟩) (by kernel_rfl) (by kernel_rfl) (by kernel_rfl) (.inr mayRTh52) (.inr mayRTh53)
theorem mayRTh62 : DT.leaf.check (okF mayFmT Try.prog noOrc (fun _ => none) (fun _ => false) [3, 4, 5, 6] mayET 100000 (cFnL Try.prog) noTab 90 19 mayArgsT) mayRTk50n = true := check_leaf (by kernel_rfl)
def mayRTt50 : DT := .less 8 (1048577) mayRTt51 .leaf
theorem mayRTh50 : mayRTt50.check (okF mayFmT Try.prog noOrc (fun _ => none) (fun _ => false) [3, 4, 5, 6] mayET 100000 (cFnL Try.prog) noTab 90 19 mayArgsT) mayRTk48n = true := check_less (Ky := mayRTk50y) (Kn := mayRTk50n) (i := ⟨1, 9223372036854775807, []⟩) (by kernel_rfl) (by kernel_rfl) (by kernel_rfl) (.inr mayRTh51) (.inr mayRTh62)
def mayRTt48 : DT := .less 8 (1) .leaf mayRTt50
theorem mayRTh48 : mayRTt48.check (okF mayFmT Try.prog noOrc (fun _ => none) (fun _ => false) [3, 4, 5, 6] mayET 100000 (cFnL Try.prog) noTab 90 19 mayArgsT) mayRTk47y = true := check_less (Ky := mayRTk48y) (Kn := mayRTk48n) (i := ⟨-9223372036854775808, 9223372036854775807, []⟩) (by kernel_rfl) (by kernel_rfl) (by kernel_rfl) (.inr mayRTh49) (.inr mayRTh50)
theorem mayRTh63 : DT.leaf.check (okF mayFmT Try.prog noOrc (fun _ => none) (fun _ => false) [3, 4, 5, 6] mayET 100000 (cFnL Try.prog) noTab 90 19 mayArgsT) mayRTk47n = true := check_leaf (by kernel_rfl)
def mayRTt47 : DT := .less 7 (4) mayRTt48 .leaf
theorem mayRTh47 : mayRTt47.check (okF mayFmT Try.prog noOrc (fun _ => none) (fun _ => false) [3, 4, 5, 6] mayET 100000 (cFnL Try.prog) noTab 90 19 mayArgsT) mayRTk45n = true := check_less (Ky := mayRTk47y) (Kn := mayRTk47n) (i := ⟨0, 9223372036854775807, []⟩) (by kernel_rfl) (by kernel_rfl) (by kernel_rfl) (.inr mayRTh48) (.inr mayRTh63)
def mayRTt45 : DT := .less 7 (0) .leaf mayRTt47
theorem mayRTh45 : mayRTt45.check (okF mayFmT Try.prog noOrc (fun _ => none) (fun _ => false) [3, 4, 5, 6] mayET 100000 (cFnL Try.prog) noTab 90 19 mayArgsT) mayRTk44y = true := check_less (Ky := mayRTk45y) (Kn := mayRTk45n) (i := ⟨-9223372036854775808, 9223372036854775807, []⟩) (by kernel_rfl) (by kernel_rfl) (by kernel_rfl) (.inr mayRTh46) (.inr mayRTh47)
def mayRTk64y : KB := mayRTk44n.put 0 ⟨3, 3, [2, 6, 1]⟩
def mayRTk64n : KB := mayRTk44n.put 0 ⟨-9223372036854775808, 9223372036854775807, [3, 2, 6, 1]⟩
def mayRTk65y : KB := mayRTk64y.put 7 ⟨-9223372036854775808, 0, []⟩
def mayRTk65n : KB := mayRTk64y.put 7 ⟨1, 9223372036854775807, []⟩
theorem mayRTh66 : DT.leaf.check (okF mayFmT Try.prog noOrc (fun _ => none) (fun _ => false) [3, 4, 5, 6] mayET 100000 (cFnL Try.prog) noTab 90 19 mayArgsT) mayRTk65y = true := check_leaf (by kernel_rfl)
def mayRTk67y : KB := mayRTk65n.put 7 ⟨1, 3, []⟩
def mayRTk67n : KB := mayRTk65n.put 7 ⟨4, 9223372036854775807, []⟩
def mayRTk68y : KB := mayRTk67y.put 8 ⟨-9223372036854775808, 0, []⟩
def mayRTk68n : KB := mayRTk67y.put 8 ⟨1, 9223372036854775807, []⟩
theorem mayRTh69 : DT.leaf.check (okF mayFmT Try.prog noOrc (fun _ => none) (fun _ => false) [3, 4, 5, 6] mayET 100000 (cFnL Try.prog) noTab 90 19 mayArgsT) mayRTk68y = true := check_leaf (by kernel_rfl)
def mayRTk70y : KB := mayRTk68n.put 8 ⟨1, 1048576, []⟩
def mayRTk70n : KB := mayRTk68n.put 8 ⟨1048577, 9223372036854775807, []⟩
def mayRTk71y : KB := mayRTk70y.put 9 ⟨-9223372036854775808, 0, []⟩
def mayRTk71n : KB := mayRTk70y.put 9 ⟨1, 9223372036854775807, []⟩
theorem mayRTh72 : DT.leaf.check (okF mayFmT Try.prog noOrc (fun _ => none) (fun _ => false) [3, 4, 5, 6] mayET 100000 (cFnL Try.prog) noTab 90 19 mayArgsT) mayRTk71y = true := check_leaf (by kernel_rfl)
def mayRTk73y : KB := mayRTk71n.put 9 ⟨1, 1024, []⟩
def mayRTk73n : KB := mayRTk71n.put 9 ⟨1025, 9223372036854775807, []⟩
def mayRTk74y : KB := mayRTk73y.put 1005 ⟨0, 0, []⟩
def mayRTk74n : KB := mayRTk73y.put 1005 ⟨1, 10000, []⟩
def mayRTk75y : KB := mayRTk74y.put 1006 ⟨0, 0, []⟩
def mayRTk75n : KB := mayRTk74y.put 1006 ⟨1, 10000, []⟩
def mayRTk76y : KB := mayRTk75y.put 11 ⟨0, 0, []⟩
def mayRTk76n : KB := mayRTk75y.put 11 ⟨-9223372036854775808, 9223372036854775807, [0]⟩
theorem mayRTh77 : DT.leaf.check (okF mayFmT Try.prog noOrc (fun _ => none) (fun _ => false) [3, 4, 5, 6] mayET 100000 (cFnL Try.prog) noTab 90 19 mayArgsT) mayRTk76y = true := check_leaf (by kernel_rfl)
theorem mayRTh78 : DT.leaf.check (okF mayFmT Try.prog noOrc (fun _ => none) (fun _ => false) [3, 4, 5, 6] mayET 100000 (cFnL Try.prog) noTab 90 19 mayArgsT) mayRTk76n = true := check_leaf (by kernel_rfl)
def mayRTt76 : DT := .same 11 (0) .leaf .leaf
theorem mayRTh76 : mayRTt76.check (okF mayFmT Try.prog noOrc (fun _ => none) (fun _ => false) [3, 4, 5, 6] mayET 100000 (cFnL Try.prog) noTab 90 19 mayArgsT) mayRTk75y = true := check_same (Ky := mayRTk76y) (Kn := mayRTk76n) (i := ⟨-9223372036854775808, 9223372036854775807, []⟩) (by kernel_rfl) (by kernel_rfl) (by kernel_rfl) (.inr mayRTh77) (.inr mayRTh78)
theorem mayRTh79 : DT.leaf.check (okF mayFmT Try.prog noOrc (fun _ => none) (fun _ => false) [3, 4, 5, 6] mayET 100000 (cFnL Try.prog) noTab 90 19 mayArgsT) mayRTk75n = true := check_leaf (by kernel_rfl)
def mayRTt75 : DT := .same 1006 (0) mayRTt76 .leaf
theorem mayRTh75 : mayRTt75.check (okF mayFmT Try.prog noOrc (fun _ => none) (fun _ => false) [3, 4, 5, 6] mayET 100000 (cFnL Try.prog) noTab 90 19 mayArgsT) mayRTk74y = true := check_same (Ky := mayRTk75y) (Kn := mayRTk75n) (i := ⟨0, 10000, []⟩) (by kernel_rfl) (by kernel_rfl) (by kernel_rfl) (.inr mayRTh76) (.inr mayRTh79)
theorem mayRTh80 : DT.leaf.check (okF mayFmT Try.prog noOrc (fun _ => none) (fun _ => false) [3, 4, 5, 6] mayET 100000 (cFnL Try.prog) noTab 90 19 mayArgsT) mayRTk74n = true := check_leaf (by kernel_rfl)
def mayRTt74 : DT := .same 1005 (0) mayRTt75 .leaf
theorem mayRTh74 : mayRTt74.check (okF mayFmT Try.prog noOrc (fun _ => none) (fun _ => false) [3, 4, 5, 6] mayET 100000 (cFnL Try.prog) noTab 90 19 mayArgsT) mayRTk73y = true := check_same (Ky := mayRTk74y) (Kn := mayRTk74n) (i := ⟨0, 10000, []⟩) (by kernel_rfl) (by kernel_rfl) (by kernel_rfl) (.inr mayRTh75) (.inr mayRTh80)
theorem mayRTh81 : DT.leaf.check (okF mayFmT Try.prog noOrc (fun _ => none) (fun _ => false) [3, 4, 5, 6] mayET 100000 (cFnL Try.prog) noTab 90 19 mayArgsT) mayRTk73n = true := check_leaf (by kernel_rfl)
def mayRTt73 : DT := .less 9 (1025) mayRTt74 .leaf
theorem mayRTh73 : mayRTt73.check (okF mayFmT Try.prog noOrc (fun _ => none) (fun _ => false) [3, 4, 5, 6] mayET 100000 (cFnL Try.prog) noTab 90 19 mayArgsT) mayRTk71n = true := check_less (Ky := mayRTk73y) (Kn := mayRTk73n) (i := ⟨1, 9223372036854775807, []⟩) (by kernel_rfl) (by kernel_rfl) (by kernel_rfl) (.inr mayRTh74) (.inr mayRTh81)
def mayRTt71 : DT := .less 9 (1) .leaf mayRTt73
theorem mayRTh71 : mayRTt71.check (okF mayFmT Try.prog noOrc (fun _ => none) (fun _ => false) [3, 4, 5, 6] mayET 100000 (cFnL Try.prog) noTab 90 19 mayArgsT) mayRTk70y = true := check_less (Ky := mayRTk71y) (Kn := mayRTk71n) (i := ⟨-9223372036854775808, 9223372036854775807, []⟩) (by kernel_rfl) (by kernel_rfl) (by kernel_rfl) (.inr mayRTh72) (.inr mayRTh73)
theorem mayRTh82 : DT.leaf.check (okF mayFmT Try.prog noOrc (fun _ => none) (fun _ => false) [3, 4, 5, 6] mayET 100000 (cFnL Try.prog) noTab 90 19 mayArgsT) mayRTk70n = true := check_leaf (by kernel_rfl)
def mayRTt70 : DT := .less 8 (1048577) mayRTt71 .leaf
theorem mayRTh70 : mayRTt70.check (okF mayFmT Try.prog noOrc (fun _ => none) (fun _ => false) [3, 4, 5, 6] mayET 100000 (cFnL Try.prog) noTab 90 19 mayArgsT) mayRTk68n = true := check_less (Ky := mayRTk70y) (Kn := mayRTk70n) (i := ⟨1, 9223372036854775807, []⟩) (by kernel_rfl) (by kernel_rfl) (by kernel_rfl) (.inr mayRTh71) (.inr mayRTh82)
def mayRTt68 : DT := .less 8 (1) .leaf mayRTt70
theorem mayRTh68 : mayRTt68.check (okF mayFmT Try.prog noOrc (fun _ => none) (fun _ => false) [3, 4, 5, 6] mayET 100000 (cFnL Try.prog) noTab 90 19 mayArgsT) mayRTk67y = true := check_less (Ky := mayRTk68y) (Kn := mayRTk68n) (i := ⟨-9223372036854775808, 9223372036854775807, []⟩) (by kernel_rfl) (by kernel_rfl) (by kernel_rfl) (.inr mayRTh69) (.inr mayRTh70)
theorem mayRTh83 : DT.leaf.check (okF mayFmT Try.prog noOrc (fun _ => none) (fun _ => false) [3, 4, 5, 6] mayET 100000 (cFnL Try.prog) noTab 90 19 mayArgsT) mayRTk67n = true := check_leaf (by kernel_rfl)
def mayRTt67 : DT := .less 7 (4) mayRTt68 .leaf
theorem mayRTh67 : mayRTt67.check (okF mayFmT Try.prog noOrc (fun _ => none) (fun _ => false) [3, 4, 5, 6] mayET 100000 (cFnL Try.prog) noTab 90 19 mayArgsT) mayRTk65n = true := check_less (Ky := mayRTk67y) (Kn := mayRTk67n) (i := ⟨1, 9223372036854775807, []⟩) (by kernel_rfl) (by kernel_rfl) (by kernel_rfl) (.inr mayRTh68) (.inr mayRTh83)
def mayRTt65 : DT := .less 7 (1) .leaf mayRTt67
theorem mayRTh65 : mayRTt65.check (okF mayFmT Try.prog noOrc (fun _ => none) (fun _ => false) [3, 4, 5, 6] mayET 100000 (cFnL Try.prog) noTab 90 19 mayArgsT) mayRTk64y = true := check_less (Ky := mayRTk65y) (Kn := mayRTk65n) (i := ⟨-9223372036854775808, 9223372036854775807, []⟩) (by kernel_rfl) (by kernel_rfl) (by kernel_rfl) (.inr mayRTh66) (.inr mayRTh67)
def mayRTk84y : KB := mayRTk64n.put 0 ⟨4, 4, [3, 2, 6, 1]⟩
def mayRTk84n : KB := mayRTk64n.put 0 ⟨-9223372036854775808, 9223372036854775807, [4, 3, 2, 6, 1]⟩
def mayRTk85y : KB := mayRTk84y.put 11 ⟨-9223372036854775808, 0, []⟩
def mayRTk85n : KB := mayRTk84y.put 11 ⟨1, 9223372036854775807, []⟩
theorem mayRTh86 : DT.leaf.check (okF mayFmT Try.prog noOrc (fun _ => none) (fun _ => false) [3, 4, 5, 6] mayET 100000 (cFnL Try.prog) noTab 90 19 mayArgsT) mayRTk85y = true := check_leaf (by kernel_rfl)
def mayRTk87y : KB := mayRTk85n.put 11 ⟨1, 1099511627776, []⟩
def mayRTk87n : KB := mayRTk85n.put 11 ⟨1099511627777, 9223372036854775807, []⟩
def mayRTk88y : KB := mayRTk87y.put 1005 ⟨0, 0, []⟩
def mayRTk88n : KB := mayRTk87y.put 1005 ⟨1, 10000, []⟩
def mayRTk89y : KB := mayRTk88y.put 1006 ⟨0, 0, []⟩
def mayRTk89n : KB := mayRTk88y.put 1006 ⟨1, 10000, []⟩
def mayRTk90y : KB := mayRTk89y.put 7 ⟨0, 0, []⟩
def mayRTk90n : KB := mayRTk89y.put 7 ⟨-9223372036854775808, 9223372036854775807, [0]⟩
def mayRTk91y : KB := mayRTk90y.put 8 ⟨0, 0, []⟩
def mayRTk91n : KB := mayRTk90y.put 8 ⟨-9223372036854775808, 9223372036854775807, [0]⟩
def mayRTk92y : KB := mayRTk91y.put 9 ⟨0, 0, []⟩
def mayRTk92n : KB := mayRTk91y.put 9 ⟨-9223372036854775808, 9223372036854775807, [0]⟩
theorem mayRTh93 : DT.leaf.check (okF mayFmT Try.prog noOrc (fun _ => none) (fun _ => false) [3, 4, 5, 6] mayET 100000 (cFnL Try.prog) noTab 90 19 mayArgsT) mayRTk92y = true := check_leaf (by kernel_rfl)
theorem mayRTh94 : DT.leaf.check (okF mayFmT Try.prog noOrc (fun _ => none) (fun _ => false) [3, 4, 5, 6] mayET 100000 (cFnL Try.prog) noTab 90 19 mayArgsT) mayRTk92n = true := check_leaf (by kernel_rfl)
def mayRTt92 : DT := .same 9 (0) .leaf .leaf
theorem mayRTh92 : mayRTt92.check (okF mayFmT Try.prog noOrc (fun _ => none) (fun _ => false) [3, 4, 5, 6] mayET 100000 (cFnL Try.prog) noTab 90 19 mayArgsT) mayRTk91y = true := check_same (Ky := mayRTk92y) (Kn := mayRTk92n) (i := ⟨-9223372036854775808, 9223372036854775807, []⟩) (by kernel_rfl) (by kernel_rfl) (by kernel_rfl) (.inr mayRTh93) (.inr mayRTh94)
theorem mayRTh95 : DT.leaf.check (okF mayFmT Try.prog noOrc (fun _ => none) (fun _ => false) [3, 4, 5, 6] mayET 100000 (cFnL Try.prog) noTab 90 19 mayArgsT) mayRTk91n = true := check_leaf (by kernel_rfl)
def mayRTt91 : DT := .same 8 (0) mayRTt92 .leaf
theorem mayRTh91 : mayRTt91.check (okF mayFmT Try.prog noOrc (fun _ => none) (fun _ => false) [3, 4, 5, 6] mayET 100000 (cFnL Try.prog) noTab 90 19 mayArgsT) mayRTk90y = true := check_same (Ky := mayRTk91y) (Kn := mayRTk91n) (i := ⟨-9223372036854775808, 9223372036854775807, []⟩) (by kernel_rfl) (by kernel_rfl) (by kernel_rfl) (.inr mayRTh92) (.inr mayRTh95)
theorem mayRTh96 : DT.leaf.check (okF mayFmT Try.prog noOrc (fun _ => none) (fun _ => false) [3, 4, 5, 6] mayET 100000 (cFnL Try.prog) noTab 90 19 mayArgsT) mayRTk90n = true := check_leaf (by kernel_rfl)
def mayRTt90 : DT := .same 7 (0) mayRTt91 .leaf
theorem mayRTh90 : mayRTt90.check (okF mayFmT Try.prog noOrc (fun _ => none) (fun _ => false) [3, 4, 5, 6] mayET 100000 (cFnL Try.prog) noTab 90 19 mayArgsT) mayRTk89y = true := check_same (Ky := mayRTk90y) (Kn := mayRTk90n) (i := ⟨-9223372036854775808, 9223372036854775807, []⟩) (by kernel_rfl) (by kernel_rfl) (by kernel_rfl) (.inr mayRTh91) (.inr mayRTh96)
theorem mayRTh97 : DT.leaf.check (okF mayFmT Try.prog noOrc (fun _ => none) (fun _ => false) [3, 4, 5, 6] mayET 100000 (cFnL Try.prog) noTab 90 19 mayArgsT) mayRTk89n = true := check_leaf (by kernel_rfl)
def mayRTt89 : DT := .same 1006 (0) mayRTt90 .leaf
theorem mayRTh89 : mayRTt89.check (okF mayFmT Try.prog noOrc (fun _ => none) (fun _ => false) [3, 4, 5, 6] mayET 100000 (cFnL Try.prog) noTab 90 19 mayArgsT) mayRTk88y = true := check_same (Ky := mayRTk89y) (Kn := mayRTk89n) (i := ⟨0, 10000, []⟩) (by kernel_rfl) (by kernel_rfl) (by kernel_rfl) (.inr mayRTh90) (.inr mayRTh97)
theorem mayRTh98 : DT.leaf.check (okF mayFmT Try.prog noOrc (fun _ => none) (fun _ => false) [3, 4, 5, 6] mayET 100000 (cFnL Try.prog) noTab 90 19 mayArgsT) mayRTk88n = true := check_leaf (by kernel_rfl)
def mayRTt88 : DT := .same 1005 (0) mayRTt89 .leaf
theorem mayRTh88 : mayRTt88.check (okF mayFmT Try.prog noOrc (fun _ => none) (fun _ => false) [3, 4, 5, 6] mayET 100000 (cFnL Try.prog) noTab 90 19 mayArgsT) mayRTk87y = true := check_same (Ky := mayRTk88y) (Kn := mayRTk88n) (i := ⟨0, 10000, []⟩) (by kernel_rfl) (by kernel_rfl) (by kernel_rfl) (.inr mayRTh89) (.inr mayRTh98)
theorem mayRTh99 : DT.leaf.check (okF mayFmT Try.prog noOrc (fun _ => none) (fun _ => false) [3, 4, 5, 6] mayET 100000 (cFnL Try.prog) noTab 90 19 mayArgsT) mayRTk87n = true := check_leaf (by kernel_rfl)
def mayRTt87 : DT := .less 11 (1099511627777) mayRTt88 .leaf
theorem mayRTh87 : mayRTt87.check (okF mayFmT Try.prog noOrc (fun _ => none) (fun _ => false) [3, 4, 5, 6] mayET 100000 (cFnL Try.prog) noTab 90 19 mayArgsT) mayRTk85n = true := check_less (Ky := mayRTk87y) (Kn := mayRTk87n) (i := ⟨1, 9223372036854775807, []⟩) (by kernel_rfl) (by kernel_rfl) (by kernel_rfl) (.inr mayRTh88) (.inr mayRTh99)
def mayRTt85 : DT := .less 11 (1) .leaf mayRTt87
theorem mayRTh85 : mayRTt85.check (okF mayFmT Try.prog noOrc (fun _ => none) (fun _ => false) [3, 4, 5, 6] mayET 100000 (cFnL Try.prog) noTab 90 19 mayArgsT) mayRTk84y = true := check_less (Ky := mayRTk85y) (Kn := mayRTk85n) (i := ⟨-9223372036854775808, 9223372036854775807, []⟩) (by kernel_rfl) (by kernel_rfl) (by kernel_rfl) (.inr mayRTh86) (.inr mayRTh87)
def mayRTk100y : KB := mayRTk84n.put 0 ⟨5, 5, [4, 3, 2, 6, 1]⟩
def mayRTk100n : KB := mayRTk84n.put 0 ⟨-9223372036854775808, 9223372036854775807, [5, 4, 3, 2, 6, 1]⟩
def mayRTk101y : KB := mayRTk100y.put 1005 ⟨0, 0, []⟩
def mayRTk101n : KB := mayRTk100y.put 1005 ⟨1, 10000, []⟩
def mayRTk102y : KB := mayRTk101y.put 1006 ⟨0, 0, []⟩
def mayRTk102n : KB := mayRTk101y.put 1006 ⟨1, 10000, []⟩
def mayRTk103y : KB := mayRTk102y.put 7 ⟨0, 0, []⟩
def mayRTk103n : KB := mayRTk102y.put 7 ⟨-9223372036854775808, 9223372036854775807, [0]⟩
def mayRTk104y : KB := mayRTk103y.put 8 ⟨0, 0, []⟩
def mayRTk104n : KB := mayRTk103y.put 8 ⟨-9223372036854775808, 9223372036854775807, [0]⟩
def mayRTk105y : KB := mayRTk104y.put 9 ⟨0, 0, []⟩
def mayRTk105n : KB := mayRTk104y.put 9 ⟨-9223372036854775808, 9223372036854775807, [0]⟩
theorem mayRTh106 : DT.leaf.check (okF mayFmT Try.prog noOrc (fun _ => none) (fun _ => false) [3, 4, 5, 6] mayET 100000 (cFnL Try.prog) noTab 90 19 mayArgsT) mayRTk105y = true := check_leaf (by kernel_rfl)
theorem mayRTh107 : DT.leaf.check (okF mayFmT Try.prog noOrc (fun _ => none) (fun _ => false) [3, 4, 5, 6] mayET 100000 (cFnL Try.prog) noTab 90 19 mayArgsT) mayRTk105n = true := check_leaf (by kernel_rfl)
def mayRTt105 : DT := .same 9 (0) .leaf .leaf
theorem mayRTh105 : mayRTt105.check (okF mayFmT Try.prog noOrc (fun _ => none) (fun _ => false) [3, 4, 5, 6] mayET 100000 (cFnL Try.prog) noTab 90 19 mayArgsT) mayRTk104y = true := check_same (Ky := mayRTk105y) (Kn := mayRTk105n) (i := ⟨-9223372036854775808, 9223372036854775807, []⟩) (by kernel_rfl) (by kernel_rfl) (by kernel_rfl) (.inr mayRTh106) (.inr mayRTh107)
theorem mayRTh108 : DT.leaf.check (okF mayFmT Try.prog noOrc (fun _ => none) (fun _ => false) [3, 4, 5, 6] mayET 100000 (cFnL Try.prog) noTab 90 19 mayArgsT) mayRTk104n = true := check_leaf (by kernel_rfl)
def mayRTt104 : DT := .same 8 (0) mayRTt105 .leaf
theorem mayRTh104 : mayRTt104.check (okF mayFmT Try.prog noOrc (fun _ => none) (fun _ => false) [3, 4, 5, 6] mayET 100000 (cFnL Try.prog) noTab 90 19 mayArgsT) mayRTk103y = true := check_same (Ky := mayRTk104y) (Kn := mayRTk104n) (i := ⟨-9223372036854775808, 9223372036854775807, []⟩) (by kernel_rfl) (by kernel_rfl) (by kernel_rfl) (.inr mayRTh105) (.inr mayRTh108)
theorem mayRTh109 : DT.leaf.check (okF mayFmT Try.prog noOrc (fun _ => none) (fun _ => false) [3, 4, 5, 6] mayET 100000 (cFnL Try.prog) noTab 90 19 mayArgsT) mayRTk103n = true := check_leaf (by kernel_rfl)
def mayRTt103 : DT := .same 7 (0) mayRTt104 .leaf
theorem mayRTh103 : mayRTt103.check (okF mayFmT Try.prog noOrc (fun _ => none) (fun _ => false) [3, 4, 5, 6] mayET 100000 (cFnL Try.prog) noTab 90 19 mayArgsT) mayRTk102y = true := check_same (Ky := mayRTk103y) (Kn := mayRTk103n) (i := ⟨-9223372036854775808, 9223372036854775807, []⟩) (by kernel_rfl) (by kernel_rfl) (by kernel_rfl) (.inr mayRTh104) (.inr mayRTh109)
theorem mayRTh110 : DT.leaf.check (okF mayFmT Try.prog noOrc (fun _ => none) (fun _ => false) [3, 4, 5, 6] mayET 100000 (cFnL Try.prog) noTab 90 19 mayArgsT) mayRTk102n = true := check_leaf (by kernel_rfl)
def mayRTt102 : DT := .same 1006 (0) mayRTt103 .leaf
theorem mayRTh102 : mayRTt102.check (okF mayFmT Try.prog noOrc (fun _ => none) (fun _ => false) [3, 4, 5, 6] mayET 100000 (cFnL Try.prog) noTab 90 19 mayArgsT) mayRTk101y = true := check_same (Ky := mayRTk102y) (Kn := mayRTk102n) (i := ⟨0, 10000, []⟩) (by kernel_rfl) (by kernel_rfl) (by kernel_rfl) (.inr mayRTh103) (.inr mayRTh110)
theorem mayRTh111 : DT.leaf.check (okF mayFmT Try.prog noOrc (fun _ => none) (fun _ => false) [3, 4, 5, 6] mayET 100000 (cFnL Try.prog) noTab 90 19 mayArgsT) mayRTk101n = true := check_leaf (by kernel_rfl)
def mayRTt101 : DT := .same 1005 (0) mayRTt102 .leaf
theorem mayRTh101 : mayRTt101.check (okF mayFmT Try.prog noOrc (fun _ => none) (fun _ => false) [3, 4, 5, 6] mayET 100000 (cFnL Try.prog) noTab 90 19 mayArgsT) mayRTk100y = true := check_same (Ky := mayRTk101y) (Kn := mayRTk101n) (i := ⟨0, 10000, []⟩) (by kernel_rfl) (by kernel_rfl) (by kernel_rfl) (.inr mayRTh102) (.inr mayRTh111)
def mayRTk112y : KB := mayRTk100n.put 0 ⟨7, 7, [5, 4, 3, 2, 6, 1]⟩
def mayRTk112n : KB := mayRTk100n.put 0 ⟨-9223372036854775808, 9223372036854775807, [7, 5, 4, 3, 2, 6, 1]⟩
def mayRTk113y : KB := mayRTk112y.put 1005 ⟨0, 0, []⟩
def mayRTk113n : KB := mayRTk112y.put 1005 ⟨1, 10000, []⟩
def mayRTk114y : KB := mayRTk113y.put 1006 ⟨0, 0, []⟩
def mayRTk114n : KB := mayRTk113y.put 1006 ⟨1, 10000, []⟩
def mayRTk115y : KB := mayRTk114y.put 7 ⟨0, 0, []⟩
def mayRTk115n : KB := mayRTk114y.put 7 ⟨-9223372036854775808, 9223372036854775807, [0]⟩
def mayRTk116y : KB := mayRTk115y.put 8 ⟨0, 0, []⟩
def mayRTk116n : KB := mayRTk115y.put 8 ⟨-9223372036854775808, 9223372036854775807, [0]⟩
def mayRTk117y : KB := mayRTk116y.put 9 ⟨0, 0, []⟩
def mayRTk117n : KB := mayRTk116y.put 9 ⟨-9223372036854775808, 9223372036854775807, [0]⟩
theorem mayRTh118 : DT.leaf.check (okF mayFmT Try.prog noOrc (fun _ => none) (fun _ => false) [3, 4, 5, 6] mayET 100000 (cFnL Try.prog) noTab 90 19 mayArgsT) mayRTk117y = true := check_leaf (by kernel_rfl)
theorem mayRTh119 : DT.leaf.check (okF mayFmT Try.prog noOrc (fun _ => none) (fun _ => false) [3, 4, 5, 6] mayET 100000 (cFnL Try.prog) noTab 90 19 mayArgsT) mayRTk117n = true := check_leaf (by kernel_rfl)
def mayRTt117 : DT := .same 9 (0) .leaf .leaf
theorem mayRTh117 : mayRTt117.check (okF mayFmT Try.prog noOrc (fun _ => none) (fun _ => false) [3, 4, 5, 6] mayET 100000 (cFnL Try.prog) noTab 90 19 mayArgsT) mayRTk116y = true := check_same (Ky := mayRTk117y) (Kn := mayRTk117n) (i := ⟨-9223372036854775808, 9223372036854775807, []⟩) (by kernel_rfl) (by kernel_rfl) (by kernel_rfl) (.inr mayRTh118) (.inr mayRTh119)
theorem mayRTh120 : DT.leaf.check (okF mayFmT Try.prog noOrc (fun _ => none) (fun _ => false) [3, 4, 5, 6] mayET 100000 (cFnL Try.prog) noTab 90 19 mayArgsT) mayRTk116n = true := check_leaf (by kernel_rfl)
def mayRTt116 : DT := .same 8 (0) mayRTt117 .leaf
theorem mayRTh116 : mayRTt116.check (okF mayFmT Try.prog noOrc (fun _ => none) (fun _ => false) [3, 4, 5, 6] mayET 100000 (cFnL Try.prog) noTab 90 19 mayArgsT) mayRTk115y = true := check_same (Ky := mayRTk116y) (Kn := mayRTk116n) (i := ⟨-9223372036854775808, 9223372036854775807, []⟩) (by kernel_rfl) (by kernel_rfl) (by kernel_rfl) (.inr mayRTh117) (.inr mayRTh120)
theorem mayRTh121 : DT.leaf.check (okF mayFmT Try.prog noOrc (fun _ => none) (fun _ => false) [3, 4, 5, 6] mayET 100000 (cFnL Try.prog) noTab 90 19 mayArgsT) mayRTk115n = true := check_leaf (by kernel_rfl)
def mayRTt115 : DT := .same 7 (0) mayRTt116 .leaf
theorem mayRTh115 : mayRTt115.check (okF mayFmT Try.prog noOrc (fun _ => none) (fun _ => false) [3, 4, 5, 6] mayET 100000 (cFnL Try.prog) noTab 90 19 mayArgsT) mayRTk114y = true := check_same (Ky := mayRTk115y) (Kn := mayRTk115n) (i := ⟨-9223372036854775808, 9223372036854775807, []⟩) (by kernel_rfl) (by kernel_rfl) (by kernel_rfl) (.inr mayRTh116) (.inr mayRTh121)
theorem mayRTh122 : DT.leaf.check (okF mayFmT Try.prog noOrc (fun _ => none) (fun _ => false) [3, 4, 5, 6] mayET 100000 (cFnL Try.prog) noTab 90 19 mayArgsT) mayRTk114n = true := check_leaf (by kernel_rfl)
def mayRTt114 : DT := .same 1006 (0) mayRTt115 .leaf
theorem mayRTh114 : mayRTt114.check (okF mayFmT Try.prog noOrc (fun _ => none) (fun _ => false) [3, 4, 5, 6] mayET 100000 (cFnL Try.prog) noTab 90 19 mayArgsT) mayRTk113y = true := check_same (Ky := mayRTk114y) (Kn := mayRTk114n) (i := ⟨0, 10000, []⟩) (by kernel_rfl) (by kernel_rfl) (by kernel_rfl) (.inr mayRTh115) (.inr mayRTh122)
theorem mayRTh123 : DT.leaf.check (okF mayFmT Try.prog noOrc (fun _ => none) (fun _ => false) [3, 4, 5, 6] mayET 100000 (cFnL Try.prog) noTab 90 19 mayArgsT) mayRTk113n = true := check_leaf (by kernel_rfl)
def mayRTt113 : DT := .same 1005 (0) mayRTt114 .leaf
theorem mayRTh113 : mayRTt113.check (okF mayFmT Try.prog noOrc (fun _ => none) (fun _ => false) [3, 4, 5, 6] mayET 100000 (cFnL Try.prog) noTab 90 19 mayArgsT) mayRTk112y = true := check_same (Ky := mayRTk113y) (Kn := mayRTk113n) (i := ⟨0, 10000, []⟩) (by kernel_rfl) (by kernel_rfl) (by kernel_rfl) (.inr mayRTh114) (.inr mayRTh123)
theorem mayRTh124 : DT.leaf.check (okF mayFmT Try.prog noOrc (fun _ => none) (fun _ => false) [3, 4, 5, 6] mayET 100000 (cFnL Try.prog) noTab 90 19 mayArgsT) mayRTk112n = true := check_leaf (by kernel_rfl)
def mayRTt112 : DT := .same 0 (7) mayRTt113 .leaf
theorem mayRTh112 : mayRTt112.check (okF mayFmT Try.prog noOrc (fun _ => none) (fun _ => false) [3, 4, 5, 6] mayET 100000 (cFnL Try.prog) noTab 90 19 mayArgsT) mayRTk100n = true := check_same (Ky := mayRTk112y) (Kn := mayRTk112n) (i := ⟨-9223372036854775808, 9223372036854775807, [5, 4, 3, 2, 6, 1]⟩) (by kernel_rfl) (by kernel_rfl) (by kernel_rfl) (.inr mayRTh113) (.inr mayRTh124)
def mayRTt100 : DT := .same 0 (5) mayRTt101 mayRTt112
theorem mayRTh100 : mayRTt100.check (okF mayFmT Try.prog noOrc (fun _ => none) (fun _ => false) [3, 4, 5, 6] mayET 100000 (cFnL Try.prog) noTab 90 19 mayArgsT) mayRTk84n = true := check_same (Ky := mayRTk100y) (Kn := mayRTk100n) (i := ⟨-9223372036854775808, 9223372036854775807, [4, 3, 2, 6, 1]⟩) (by kernel_rfl) (by kernel_rfl) (by kernel_rfl) (.inr mayRTh101) (.inr mayRTh112)
def mayRTt84 : DT := .same 0 (4) mayRTt85 mayRTt100
theorem mayRTh84 : mayRTt84.check (okF mayFmT Try.prog noOrc (fun _ => none) (fun _ => false) [3, 4, 5, 6] mayET 100000 (cFnL Try.prog) noTab 90 19 mayArgsT) mayRTk64n = true := check_same (Ky := mayRTk84y) (Kn := mayRTk84n) (i := ⟨-9223372036854775808, 9223372036854775807, [3, 2, 6, 1]⟩) (by kernel_rfl) (by kernel_rfl) (by kernel_rfl) (.inr mayRTh85) (.inr mayRTh100)
def mayRTt64 : DT := .same 0 (3) mayRTt65 mayRTt84
theorem mayRTh64 : mayRTt64.check (okF mayFmT Try.prog noOrc (fun _ => none) (fun _ => false) [3, 4, 5, 6] mayET 100000 (cFnL Try.prog) noTab 90 19 mayArgsT) mayRTk44n = true := check_same (Ky := mayRTk64y) (Kn := mayRTk64n) (i := ⟨-9223372036854775808, 9223372036854775807, [2, 6, 1]⟩) (by kernel_rfl) (by kernel_rfl) (by kernel_rfl) (.inr mayRTh65) (.inr mayRTh84)
def mayRTt44 : DT := .same 0 (2) mayRTt45 mayRTt64
theorem mayRTh44 : mayRTt44.check (okF mayFmT Try.prog noOrc (fun _ => none) (fun _ => false) [3, 4, 5, 6] mayET 100000 (cFnL Try.prog) noTab 90 19 mayArgsT) mayRTk28n = true := check_same (Ky := mayRTk44y) (Kn := mayRTk44n) (i := ⟨-9223372036854775808, 9223372036854775807, [6, 1]⟩) (by kernel_rfl) (by kernel_rfl) (by kernel_rfl) (.inr mayRTh45) (.inr mayRTh64)
def mayRTt28 : DT := .same 0 (6) mayRTt29 mayRTt44
theorem mayRTh28 : mayRTt28.check (okF mayFmT Try.prog noOrc (fun _ => none) (fun _ => false) [3, 4, 5, 6] mayET 100000 (cFnL Try.prog) noTab 90 19 mayArgsT) mayRTk12n = true := check_same (Ky := mayRTk28y) (Kn := mayRTk28n) (i := ⟨-9223372036854775808, 9223372036854775807, [1]⟩) (by kernel_rfl) (by kernel_rfl) (by kernel_rfl) (.inr mayRTh29) (.inr mayRTh44)
def mayRTt12 : DT := .same 0 (1) mayRTt13 mayRTt28
theorem mayRTh12 : mayRTt12.check (okF mayFmT Try.prog noOrc (fun _ => none) (fun _ => false) [3, 4, 5, 6] mayET 100000 (cFnL Try.prog) noTab 90 19 mayArgsT) mayRTk11y = true := check_same (Ky := mayRTk12y) (Kn := mayRTk12n) (i := ⟨-9223372036854775808, 9223372036854775807, []⟩) (by kernel_rfl) (by kernel_rfl) (by kernel_rfl) (.inr mayRTh13) (.inr mayRTh28)
theorem mayRTh125 : DT.leaf.check (okF mayFmT Try.prog noOrc (fun _ => none) (fun _ => false) [3, 4, 5, 6] mayET 100000 (cFnL Try.prog) noTab 90 19 mayArgsT) mayRTk11n = true := check_leaf (by kernel_rfl)
def mayRTt11 : DT := .less 1004 (17) mayRTt12 .leaf
theorem mayRTh11 : mayRTt11.check (okF mayFmT Try.prog noOrc (fun _ => none) (fun _ => false) [3, 4, 5, 6] mayET 100000 (cFnL Try.prog) noTab 90 19 mayArgsT) mayRTk9n = true := check_less (Ky := mayRTk11y) (Kn := mayRTk11n) (i := ⟨1, 10000, []⟩) (by kernel_rfl) (by kernel_rfl) (by kernel_rfl) (.inr mayRTh12) (.inr mayRTh125)
def mayRTt9 : DT := .less 1004 (1) .leaf mayRTt11
theorem mayRTh9 : mayRTt9.check (okF mayFmT Try.prog noOrc (fun _ => none) (fun _ => false) [3, 4, 5, 6] mayET 100000 (cFnL Try.prog) noTab 90 19 mayArgsT) mayRTk8y = true := check_less (Ky := mayRTk9y) (Kn := mayRTk9n) (i := ⟨0, 10000, []⟩) (by kernel_rfl) (by kernel_rfl) (by kernel_rfl) (.inr mayRTh10) (.inr mayRTh11)
theorem mayRTh126 : DT.leaf.check (okF mayFmT Try.prog noOrc (fun _ => none) (fun _ => false) [3, 4, 5, 6] mayET 100000 (cFnL Try.prog) noTab 90 19 mayArgsT) mayRTk8n = true := check_leaf (by kernel_rfl)
def mayRTt8 : DT := .less 1003 (17) mayRTt9 .leaf
theorem mayRTh8 : mayRTt8.check (okF mayFmT Try.prog noOrc (fun _ => none) (fun _ => false) [3, 4, 5, 6] mayET 100000 (cFnL Try.prog) noTab 90 19 mayArgsT) mayRTk6n = true := check_less (Ky := mayRTk8y) (Kn := mayRTk8n) (i := ⟨1, 10000, []⟩) (by kernel_rfl) (by kernel_rfl) (by kernel_rfl) (.inr mayRTh9) (.inr mayRTh126)
def mayRTt6 : DT := .less 1003 (1) .leaf mayRTt8
theorem mayRTh6 : mayRTt6.check (okF mayFmT Try.prog noOrc (fun _ => none) (fun _ => false) [3, 4, 5, 6] mayET 100000 (cFnL Try.prog) noTab 90 19 mayArgsT) mayRTk5y = true := check_less (Ky := mayRTk6y) (Kn := mayRTk6n) (i := ⟨0, 10000, []⟩) (by kernel_rfl) (by kernel_rfl) (by kernel_rfl) (.inr mayRTh7) (.inr mayRTh8)
theorem mayRTh127 : DT.leaf.check (okF mayFmT Try.prog noOrc (fun _ => none) (fun _ => false) [3, 4, 5, 6] mayET 100000 (cFnL Try.prog) noTab 90 19 mayArgsT) mayRTk5n = true := check_leaf (by kernel_rfl)
def mayRTt5 : DT := .less 2 (1099511627777) mayRTt6 .leaf
theorem mayRTh5 : mayRTt5.check (okF mayFmT Try.prog noOrc (fun _ => none) (fun _ => false) [3, 4, 5, 6] mayET 100000 (cFnL Try.prog) noTab 90 19 mayArgsT) mayRTk3n = true := check_less (Ky := mayRTk5y) (Kn := mayRTk5n) (i := ⟨1, 9223372036854775807, []⟩) (by kernel_rfl) (by kernel_rfl) (by kernel_rfl) (.inr mayRTh6) (.inr mayRTh127)
def mayRTt3 : DT := .less 2 (1) .leaf mayRTt5
theorem mayRTh3 : mayRTt3.check (okF mayFmT Try.prog noOrc (fun _ => none) (fun _ => false) [3, 4, 5, 6] mayET 100000 (cFnL Try.prog) noTab 90 19 mayArgsT) mayRTk2y = true := check_less (Ky := mayRTk3y) (Kn := mayRTk3n) (i := ⟨-9223372036854775808, 9223372036854775807, []⟩) (by kernel_rfl) (by kernel_rfl) (by kernel_rfl) (.inr mayRTh4) (.inr mayRTh5)
theorem mayRTh128 : DT.leaf.check (okF mayFmT Try.prog noOrc (fun _ => none) (fun _ => false) [3, 4, 5, 6] mayET 100000 (cFnL Try.prog) noTab 90 19 mayArgsT) mayRTk2n = true := check_leaf (by kernel_rfl)
def mayRTt2 : DT := .less 1 (1048577) mayRTt3 .leaf
theorem mayRTh2 : mayRTt2.check (okF mayFmT Try.prog noOrc (fun _ => none) (fun _ => false) [3, 4, 5, 6] mayET 100000 (cFnL Try.prog) noTab 90 19 mayArgsT) mayRTk0n = true := check_less (Ky := mayRTk2y) (Kn := mayRTk2n) (i := ⟨1, 9223372036854775807, []⟩) (by kernel_rfl) (by kernel_rfl) (by kernel_rfl) (.inr mayRTh3) (.inr mayRTh128)
def mayRTt0 : DT := .less 1 (1) .leaf mayRTt2
theorem mayRTh0 : mayRTt0.check (okF mayFmT Try.prog noOrc (fun _ => none) (fun _ => false) [3, 4, 5, 6] mayET 100000 (cFnL Try.prog) noTab 90 19 mayArgsT) mayKB = true := check_less (Ky := mayRTk0y) (Kn := mayRTk0n) (i := ⟨-9223372036854775808, 9223372036854775807, []⟩) (by kernel_rfl) (by kernel_rfl) (by kernel_rfl) (.inr mayRTh1) (.inr mayRTh2)
theorem mayRTCheck : mayRTt0.check (okF mayFmT Try.prog noOrc (fun _ => none) (fun _ => false) [3, 4, 5, 6] mayET 100000 (cFnL Try.prog) noTab 90 19 mayArgsT) mayKB = true := mayRTh0
end Go.Proofs.Ytblknjclkecglaa
