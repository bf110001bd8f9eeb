/- What may be a request: satrapy/satrapyref10.May: a tree of questions. -/
import Derived.Test.YtblknjclkecglaaMayA
import Derived.ProofKit
namespace Go.Proofs.Ytblknjclkecglaa
open Go.RowKit
set_option linter.unusedVariables false
set_option linter.unusedSimpArgs false
set_option maxRecDepth 100000

def mayRFk0y : KB := mayKB.put 1 ⟨-9223372036854775808, 0, []⟩
def mayRFk0n : KB := mayKB.put 1 ⟨1, 9223372036854775807, []⟩
theorem mayRFh1 : DT.leaf.check (okF mayFmF Try.prog noOrc (fun _ => none) (fun _ => false) [3, 4, 5, 6] mayET 100000 (cFnL Try.prog) noTab 90 19 mayArgsF) mayRFk0y = true := check_leaf (by kernel_rfl)
def mayRFk2y : KB := mayRFk0n.put 1 ⟨1, 1048576, []⟩
def mayRFk2n : KB := mayRFk0n.put 1 ⟨1048577, 9223372036854775807, []⟩
def mayRFk3y : KB := mayRFk2y.put 2 ⟨-9223372036854775808, 0, []⟩
def mayRFk3n : KB := mayRFk2y.put 2 ⟨1, 9223372036854775807, []⟩
theorem mayRFh4 : DT.leaf.check (okF mayFmF Try.prog noOrc (fun _ => none) (fun _ => false) [3, 4, 5, 6] mayET 100000 (cFnL Try.prog) noTab 90 19 mayArgsF) mayRFk3y = true := check_leaf (by kernel_rfl)
def mayRFk5y : KB := mayRFk3n.put 2 ⟨1, 1099511627776, []⟩
def mayRFk5n : KB := mayRFk3n.put 2 ⟨1099511627777, 9223372036854775807, []⟩
def mayRFk6y : KB := mayRFk5y.put 1003 ⟨0, 0, []⟩
def mayRFk6n : KB := mayRFk5y.put 1003 ⟨1, 10000, []⟩
theorem mayRFh7 : DT.leaf.check (okF mayFmF Try.prog noOrc (fun _ => none) (fun _ => false) [3, 4, 5, 6] mayET 100000 (cFnL Try.prog) noTab 90 19 mayArgsF) mayRFk6y = true := check_leaf (by kernel_rfl)
def mayRFk8y : KB := mayRFk6n.put 1003 ⟨1, 16, []⟩
def mayRFk8n : KB := mayRFk6n.put 1003 ⟨17, 10000, []⟩
def mayRFk9y : KB := mayRFk8y.put 1004 ⟨0, 0, []⟩
def mayRFk9n : KB := mayRFk8y.put 1004 ⟨1, 10000, []⟩
theorem mayRFh10 : DT.leaf.check (okF mayFmF Try.prog noOrc (fun _ => none) (fun _ => false) [3, 4, 5, 6] mayET 100000 (cFnL Try.prog) noTab 90 19 mayArgsF) mayRFk9y = true := check_leaf (by kernel_rfl)
def mayRFk11y : KB := mayRFk9n.put 1004 ⟨1, 16, []⟩
def mayRFk11n : KB := mayRFk9n.put 1004 ⟨17, 10000, []⟩
def mayRFk12y : KB := mayRFk11y.put 0 ⟨1, 1, []⟩
def mayRFk12n : KB := mayRFk11y.put 0 ⟨-9223372036854775808, 9223372036854775807, [1]⟩
def mayRFk13y : KB := mayRFk12y.put 7 ⟨-9223372036854775808, -1, []⟩
def mayRFk13n : KB := mayRFk12y.put 7 ⟨0, 9223372036854775807, []⟩
theorem mayRFh14 : DT.leaf.check (okF mayFmF Try.prog noOrc (fun _ => none) (fun _ => false) [3, 4, 5, 6] mayET 100000 (cFnL Try.prog) noTab 90 19 mayArgsF) mayRFk13y = true := check_leaf (by kernel_rfl)
def mayRFk15y : KB := mayRFk13n.put 7 ⟨0, 3, []⟩
def mayRFk15n : KB := mayRFk13n.put 7 ⟨4, 9223372036854775807, []⟩
def mayRFk16y : KB := mayRFk15y.put 8 ⟨-9223372036854775808, 0, []⟩
def mayRFk16n : KB := mayRFk15y.put 8 ⟨1, 9223372036854775807, []⟩
theorem mayRFh17 : DT.leaf.check (okF mayFmF Try.prog noOrc (fun _ => none) (fun _ => false) [3, 4, 5, 6] mayET 100000 (cFnL Try.prog) noTab 90 19 mayArgsF) mayRFk16y = true := check_leaf (by kernel_rfl)
def mayRFk18y : KB := mayRFk16n.put 8 ⟨1, 1048576, []⟩
def mayRFk18n : KB := mayRFk16n.put 8 ⟨1048577, 9223372036854775807, []⟩
def mayRFk19y : KB := mayRFk18y.put 1005 ⟨0, 0, []⟩
def mayRFk19n : KB := mayRFk18y.put 1005 ⟨1, 10000, []⟩
def mayRFk20y : KB := mayRFk19y.put 1006 ⟨0, 0, []⟩
def mayRFk20n : KB := mayRFk19y.put 1006 ⟨1, 10000, []⟩
def mayRFk21y : KB := mayRFk20y.put 9 ⟨0, 0, []⟩
def mayRFk21n : KB := mayRFk20y.put 9 ⟨-9223372036854775808, 9223372036854775807, [0]⟩
def mayRFk22y : KB := mayRFk21y.put 11 ⟨0, 0, []⟩
def mayRFk22n : KB := mayRFk21y.put 11 ⟨-9223372036854775808, 9223372036854775807, [0]⟩
theorem mayRFh23 : DT.leaf.check (okF mayFmF Try.prog noOrc (fun _ => none) (fun _ => false) [3, 4, 5, 6] mayET 100000 (cFnL Try.prog) noTab 90 19 mayArgsF) mayRFk22y = true := check_leaf (by kernel_rfl)
theorem mayRFh24 : DT.leaf.check (okF mayFmF Try.prog noOrc (fun _ => none) (fun _ => false) [3, 4, 5, 6] mayET 100000 (cFnL Try.prog) noTab 90 19 mayArgsF) mayRFk22n = true := check_leaf (by kernel_rfl)
def mayRFt22 : DT := .same 11 (0) .leaf .leaf
theorem mayRFh22 : mayRFt22.check (okF mayFmF Try.prog noOrc (fun _ => none) (fun _ => false) [3, 4, 5, 6] mayET 100000 (cFnL Try.prog) noTab 90 19 mayArgsF) mayRFk21y = true := check_same (Ky := mayRFk22y) (Kn := mayRFk22n) (i := ⟨-9223372036854775808, 9223372036854775807, []⟩) (by kernel_rfl) (by kernel_rfl) (by kernel_rfl) (.inr mayRFh23) (.inr mayRFh24)
theorem mayRFh25 : DT.leaf.check (okF mayFmF Try.prog noOrc (fun _ => none) (fun _ => false) [3, 4, 5, 6] mayET 100000 (cFnL Try.prog) noTab 90 19 mayArgsF) mayRFk21n = true := check_leaf (by kernel_rfl)
def mayRFt21 : DT := .same 9 (0) mayRFt22 .leaf
theorem mayRFh21 : mayRFt21.check (okF mayFmF Try.prog noOrc (fun _ => none) (fun _ => false) [3, 4, 5, 6] mayET 100000 (cFnL Try.prog) noTab 90 19 mayArgsF) mayRFk20y = true := check_same (Ky := mayRFk21y) (Kn := mayRFk21n) (i := ⟨-9223372036854775808, 9223372036854775807, []⟩) (by kernel_rfl) (by kernel_rfl) (by kernel_rfl) (.inr mayRFh22) (.inr mayRFh25)
theorem mayRFh26 : DT.leaf.check (okF mayFmF Try.prog noOrc (fun _ => none) (fun _ => false) [3, 4, 5, 6] mayET 100000 (cFnL Try.prog) noTab 90 19 mayArgsF) mayRFk20n = true := check_leaf (by kernel_rfl)
def mayRFt20 : DT := .same 1006 (0) mayRFt21 .leaf
theorem mayRFh20 : mayRFt20.check (okF mayFmF Try.prog noOrc (fun _ => none) (fun _ => false) [3, 4, 5, 6] mayET 100000 (cFnL Try.prog) noTab 90 19 mayArgsF) mayRFk19y = true := check_same (Ky := mayRFk20y) (Kn := mayRFk20n) (i := ⟨0, 10000, []⟩) (by kernel_rfl) (by kernel_rfl) (by kernel_rfl) (.inr mayRFh21) (.inr mayRFh26)
theorem mayRFh27 : DT.leaf.check (okF mayFmF Try.prog noOrc (fun _ => none) (fun _ => false) [3, 4, 5, 6] mayET 100000 (cFnL Try.prog) noTab 90 19 mayArgsF) mayRFk19n = true := check_leaf (by kernel_rfl)
def mayRFt19 : DT := .same 1005 (0) mayRFt20 .leaf
theorem mayRFh19 : mayRFt19.check (okF mayFmF Try.prog noOrc (fun _ => none) (fun _ => false) [3, 4, 5, 6] mayET 100000 (cFnL Try.prog) noTab 90 19 mayArgsF) mayRFk18y = true := check_same (Ky := mayRFk19y) (Kn := mayRFk19n) (i := ⟨0, 10000, []⟩) (by kernel_rfl) (by kernel_rfl) (by kernel_rfl) (.inr mayRFh20) (.inr mayRFh27)
theorem mayRFh28 : DT.leaf.check (okF mayFmF Try.prog noOrc (fun _ => none) (fun _ => false) [3, 4, 5, 6] mayET 100000 (cFnL Try.prog) noTab 90 19 mayArgsF) mayRFk18n = true := check_leaf (by kernel_rfl)
def mayRFt18 : DT := .less 8 (1048577) mayRFt19 .leaf
theorem mayRFh18 : mayRFt18.check (okF mayFmF Try.prog noOrc (fun _ => none) (fun _ => false) [3, 4, 5, 6] mayET 100000 (cFnL Try.prog) noTab 90 19 mayArgsF) mayRFk16n = true := check_less (Ky := mayRFk18y) (Kn := mayRFk18n) (i := ⟨1, 9223372036854775807, []⟩) (by kernel_rfl) (by kernel_rfl) (by kernel_rfl) (.inr mayRFh19) (.inr mayRFh28)
def mayRFt16 : DT := .less 8 (1) .leaf mayRFt18
theorem mayRFh16 : mayRFt16.check (okF mayFmF Try.prog noOrc (fun _ => none) (fun _ => false) [3, 4, 5, 6] mayET 100000 (cFnL Try.prog) noTab 90 19 mayArgsF) mayRFk15y = true := check_less (Ky := mayRFk16y) (Kn := mayRFk16n) (i := ⟨-9223372036854775808, 9223372036854775807, []⟩) (by kernel_rfl) (by kernel_rfl) (by kernel_rfl) (.inr mayRFh17) (.inr mayRFh18)
theorem mayRFh29 : DT.leaf.check (okF mayFmF Try.prog noOrc (fun _ => none) (fun _ => false) [3, 4, 5, 6] mayET 100000 (cFnL Try.prog) noTab 90 19 mayArgsF) mayRFk15n = true := check_leaf (by kernel_rfl)
def mayRFt15 : DT := .less 7 (4) mayRFt16 .leaf
theorem mayRFh15 : mayRFt15.check (okF mayFmF Try.prog noOrc (fun _ => none) (fun _ => false) [3, 4, 5, 6] mayET 100000 (cFnL Try.prog) noTab 90 19 mayArgsF) mayRFk13n = true := check_less (Ky := mayRFk15y) (Kn := mayRFk15n) (i := ⟨0, 9223372036854775807, []⟩) (by kernel_rfl) (by kernel_rfl) (by kernel_rfl) (.inr mayRFh16) (.inr mayRFh29)
def mayRFt13 : DT := .less 7 (0) .leaf mayRFt15
theorem mayRFh13 : mayRFt13.check (okF mayFmF Try.prog noOrc (fun _ => none) (fun _ => false) [3, 4, 5, 6] mayET 100000 (cFnL Try.prog) noTab 90 19 mayArgsF) mayRFk12y = true := check_less (Ky := mayRFk13y) (Kn := mayRFk13n) (i := ⟨-9223372036854775808, 9223372036854775807, []⟩) (by kernel_rfl) (by kernel_rfl) (by kernel_rfl) (.inr mayRFh14) (.inr mayRFh15)
def mayRFk30y : KB := mayRFk12n.put 0 ⟨6, 6, [1]⟩
def mayRFk30n : KB := mayRFk12n.put 0 ⟨-9223372036854775808, 9223372036854775807, [6, 1]⟩
def mayRFk31y : KB := mayRFk30y.put 7 ⟨-9223372036854775808, -1, []⟩
def mayRFk31n : KB := mayRFk30y.put 7 ⟨0, 9223372036854775807, []⟩
theorem mayRFh32 : DT.leaf.check (okF mayFmF Try.prog noOrc (fun _ => none) (fun _ => false) [3, 4, 5, 6] mayET 100000 (cFnL Try.prog) noTab 90 19 mayArgsF) mayRFk31y = true := check_leaf (by kernel_rfl)
def mayRFk33y : KB := mayRFk31n.put 7 ⟨0, 3, []⟩
def mayRFk33n : KB := mayRFk31n.put 7 ⟨4, 9223372036854775807, []⟩
def mayRFk34y : KB := mayRFk33y.put 8 ⟨-9223372036854775808, 0, []⟩
def mayRFk34n : KB := mayRFk33y.put 8 ⟨1, 9223372036854775807, []⟩
theorem mayRFh35 : DT.leaf.check (okF mayFmF Try.prog noOrc (fun _ => none) (fun _ => false) [3, 4, 5, 6] mayET 100000 (cFnL Try.prog) noTab 90 19 mayArgsF) mayRFk34y = true := check_leaf (by kernel_rfl)
def mayRFk36y : KB := mayRFk34n.put 8 ⟨1, 1048576, []⟩
def mayRFk36n : KB := mayRFk34n.put 8 ⟨1048577, 9223372036854775807, []⟩
def mayRFk37y : KB := mayRFk36y.put 1005 ⟨0, 0, []⟩
def mayRFk37n : KB := mayRFk36y.put 1005 ⟨1, 10000, []⟩
def mayRFk38y : KB := mayRFk37y.put 1006 ⟨0, 0, []⟩
def mayRFk38n : KB := mayRFk37y.put 1006 ⟨1, 10000, []⟩
def mayRFk39y : KB := mayRFk38y.put 9 ⟨0, 0, []⟩
def mayRFk39n : KB := mayRFk38y.put 9 ⟨-9223372036854775808, 9223372036854775807, [0]⟩
def mayRFk40y : KB := mayRFk39y.put 11 ⟨0, 0, []⟩
def mayRFk40n : KB := mayRFk39y.put 11 ⟨-9223372036854775808, 9223372036854775807, [0]⟩
theorem mayRFh41 : DT.leaf.check (okF mayFmF Try.prog noOrc (fun _ => none) (fun _ => false) [3, 4, 5, 6] mayET 100000 (cFnL Try.prog) noTab 90 19 mayArgsF) mayRFk40y = true := check_leaf (by kernel_rfl)
theorem mayRFh42 : DT.leaf.check (okF mayFmF Try.prog noOrc (fun _ => none) (fun _ => false) [3, 4, 5, 6] mayET 100000 (cFnL Try.prog) noTab 90 19 mayArgsF) mayRFk40n = true := check_leaf (by kernel_rfl)
def mayRFt40 : DT := .same 11 (0) .leaf .leaf
theorem mayRFh40 : mayRFt40.check (okF mayFmF Try.prog noOrc (fun _ => none) (fun _ => false) [3, 4, 5, 6] mayET 100000 (cFnL Try.prog) noTab 90 19 mayArgsF) mayRFk39y = true := check_same (Ky := mayRFk40y) (Kn := mayRFk40n) (i := ⟨-9223372036854775808, 9223372036854775807, []⟩) (by kernel_rfl) (by kernel_rfl) (by kernel_rfl) (.inr mayRFh41) (.inr mayRFh42)
theorem mayRFh43 : DT.leaf.check (okF mayFmF Try.prog noOrc (fun _ => none) (fun _ => false) [3, 4, 5, 6] mayET 100000 (cFnL Try.prog) noTab 90 19 mayArgsF) mayRFk39n = true := check_leaf (by kernel_rfl)
def mayRFt39 : DT := .same 9 (0) mayRFt40 .leaf
theorem mayRFh39 : mayRFt39.check (okF mayFmF Try.prog noOrc (fun _ => none) (fun _ => false) [3, 4, 5, 6] mayET 100000 (cFnL Try.prog) noTab 90 19 mayArgsF) mayRFk38y = true := check_same (Ky := mayRFk39y) (Kn := mayRFk39n) (i := ⟨-9223372036854775808, 9223372036854775807, []⟩) (by kernel_rfl) (by kernel_rfl) (by kernel_rfl) (.inr mayRFh40) (.inr mayRFh43)
theorem mayRFh44 : DT.leaf.check (okF mayFmF Try.prog noOrc (fun _ => none) (fun _ => false) [3, 4, 5, 6] mayET 100000 (cFnL Try.prog) noTab 90 19 mayArgsF) mayRFk38n = true := check_leaf (by kernel_rfl)
def mayRFt38 : DT := .same 1006 (0) mayRFt39 .leaf
theorem mayRFh38 : mayRFt38.check (okF mayFmF Try.prog noOrc (fun _ => none) (fun _ => false) [3, 4, 5, 6] mayET 100000 (cFnL Try.prog) noTab 90 19 mayArgsF) mayRFk37y = true := check_same (Ky := mayRFk38y) (Kn := mayRFk38n) (i := ⟨0, 10000, []⟩) (by kernel_rfl) (by kernel_rfl) (by kernel_rfl) (.inr mayRFh39) (.inr mayRFh44)
theorem mayRFh45 : DT.leaf.check (okF mayFmF Try.prog noOrc (fun _ => none) (fun _ => false) [3, 4, 5, 6] mayET 100000 (cFnL Try.prog) noTab 90 19 mayArgsF) mayRFk37n = true := check_leaf (by kernel_rfl)
def mayRFt37 : DT := .same 1005 (0) mayRFt38 .leaf
theorem mayRFh37 : mayRFt37.check (okF mayFmF Try.prog noOrc (fun _ => none) (fun _ => false) [3, 4, 5, 6] mayET 100000 (cFnL Try.prog) noTab 90 19 mayArgsF) mayRFk36y = true := check_same (Ky := mayRFk37y) (Kn := mayRFk37n) (i := ⟨0, 10000, []⟩) (by kernel_rfl) (by kernel_rfl) (by kernel_rfl) (.inr mayRFh38) (.inr mayRFh45)
theorem mayRFh46 : DT.leaf.check (okF mayFmF Try.prog noOrc (fun _ => none) (fun _ => false) [3, 4, 5, 6] mayET 100000 (cFnL Try.prog) noTab 90 19 mayArgsF) mayRFk36n = true := check_leaf (by kernel_rfl)
def mayRFt36 : DT := .less 8 (1048577) mayRFt37 .leaf
theorem mayRFh36 : mayRFt36.check (okF mayFmF Try.prog noOrc (fun _ => none) (fun _ => false) [3, 4, 5, 6] mayET 100000 (cFnL Try.prog) noTab 90 19 mayArgsF) mayRFk34n = true := check_less (Ky := mayRFk36y) (Kn := mayRFk36n) (i := ⟨1, 9223372036854775807, []⟩) (by kernel_rfl) (by kernel_rfl) (by kernel_rfl) (.inr mayRFh37) (.inr mayRFh46)
def mayRFt34 : DT := .less 8 (1) .leaf mayRFt36
theorem mayRFh34 : mayRFt34.check (okF mayFmF Try.prog noOrc (fun _ => none) (fun _ => false) [3, 4, 5, 6] mayET 100000 (cFnL Try.prog) noTab 90 19 mayArgsF) mayRFk33y = true := check_less (Ky := mayRFk34y) (Kn := mayRFk34n) (i := ⟨-9223372036854775808, 9223372036854775807, []⟩) (by kernel_rfl) (by kernel_rfl) (by kernel_rfl) (.inr mayRFh35) (.inr mayRFh36)
theorem mayRFh47 : DT.leaf.check (okF mayFmF Try.prog noOrc (fun _ => none) (fun _ => false) [3, 4, 5, 6] mayET 100000 (cFnL Try.prog) noTab 90 19 mayArgsF) mayRFk33n = true := check_leaf (by kernel_rfl)
def mayRFt33 : DT := .less 7 (4) mayRFt34 .leaf
theorem mayRFh33 : mayRFt33.check (okF mayFmF Try.prog noOrc (fun _ => none) (fun _ => false) [3, 4, 5, 6] mayET 100000 (cFnL Try.prog) noTab 90 19 mayArgsF) mayRFk31n = true := check_less (Ky := mayRFk33y) (Kn := mayRFk33n) (i := ⟨0, 9223372036854775807, []⟩) (by kernel_rfl) (by kernel_rfl) (by kernel_rfl) (.inr mayRFh34) (.inr mayRFh47)
def mayRFt31 : DT := .less 7 (0) .leaf mayRFt33
theorem mayRFh31 : mayRFt31.check (okF mayFmF Try.prog noOrc (fun _ => none) (fun _ => false) [3, 4, 5, 6] mayET 100000 (cFnL Try.prog) noTab 90 19 mayArgsF) mayRFk30y = true := check_less (Ky := mayRFk31y) (Kn := mayRFk31n) (i := ⟨-9223372036854775808, 9223372036854775807, []⟩) (by kernel_rfl) (by kernel_rfl) (by kernel_rfl) (.inr mayRFh32) (.inr mayRFh33)
def mayRFk48y : KB := mayRFk30n.put 0 ⟨2, 2, [6, 1]⟩
def mayRFk48n : KB := mayRFk30n.put 0 ⟨-9223372036854775808, 9223372036854775807, [2, 6, 1]⟩
def mayRFk49y : KB := mayRFk48y.put 7 ⟨-9223372036854775808, -1, []⟩
def mayRFk49n : KB := mayRFk48y.put 7 ⟨0, 9223372036854775807, []⟩
theorem mayRFh50 : DT.leaf.check (okF mayFmF Try.prog noOrc (fun _ => none) (fun _ => false) [3, 4, 5, 6] mayET 100000 (cFnL Try.prog) noTab 90 19 mayArgsF) mayRFk49y = true := check_leaf (by kernel_rfl)
def mayRFk51y : KB := mayRFk49n.put 7 ⟨0, 3, []⟩
def mayRFk51n : KB := mayRFk49n.put 7 ⟨4, 9223372036854775807, []⟩
def mayRFk52y : KB := mayRFk51y.put 8 ⟨-9223372036854775808, 0, []⟩
def mayRFk52n : KB := mayRFk51y.put 8 ⟨1, 9223372036854775807, []⟩
theorem mayRFh53 : DT.leaf.check (okF mayFmF Try.prog noOrc (fun _ => none) (fun _ => false) [3, 4, 5, 6] mayET 100000 (cFnL Try.prog) noTab 90 19 mayArgsF) mayRFk52y = true := check_leaf (by kernel_rfl)
def mayRFk54y : KB := mayRFk52n.put 8 ⟨1, 1048576, []⟩
def mayRFk54n : KB := mayRFk52n.put 8 ⟨1048577, 9223372036854775807, []⟩
def mayRFk55y : KB := mayRFk54y.put 1005 ⟨0, 0, []⟩
def mayRFk55n : KB := mayRFk54y.put 1005 ⟨1, 10000, []⟩
theorem mayRFh56 : DT.leaf.check (okF mayFmF Try.prog noOrc (fun _ => none) (fun _ => false) [3, 4, 5, 6] mayET 100000 (cFnL Try.prog) noTab 90 19 mayArgsF) mayRFk55y = true := check_leaf (by kernel_rfl)
def mayRFk57y : KB := mayRFk55n.put 1005 ⟨1, 16, []⟩
def mayRFk57n : KB := mayRFk55n.put 1005 ⟨17, 10000, []⟩
def mayRFk58y : KB := mayRFk57y.put 1006 ⟨0, 0, []⟩
def mayRFk58n : KB := mayRFk57y.put 1006 ⟨1, 10000, []⟩
theorem mayRFh59 : DT.leaf.check (okF mayFmF Try.prog noOrc (fun _ => none) (fun _ => false) [3, 4, 5, 6] mayET 100000 (cFnL Try.prog) noTab 90 19 mayArgsF) mayRFk58y = true := check_leaf (by kernel_rfl)
def mayRFk60y : KB := mayRFk58n.put 1006 ⟨1, 16, []⟩
def mayRFk60n : KB := mayRFk58n.put 1006 ⟨17, 10000, []⟩
def mayRFk61y : KB := mayRFk60y.put 9 ⟨0, 0, []⟩
def mayRFk61n : KB := mayRFk60y.put 9 ⟨-9223372036854775808, 9223372036854775807, [0]⟩
def mayRFk62y : KB := mayRFk61y.put 11 ⟨0, 0, []⟩
def mayRFk62n : KB := mayRFk61y.put 11 ⟨-9223372036854775808, 9223372036854775807, [0]⟩
theorem mayRFh63 : DT.leaf.check (okF mayFmF Try.prog noOrc (fun _ => none) (fun _ => false) [3, 4, 5, 6] mayET 100000 (cFnL Try.prog) noTab 90 19 mayArgsF) mayRFk62y = true := check_leaf (by kernel_rfl)
theorem mayRFh64 : DT.leaf.check (okF mayFmF Try.prog noOrc (fun _ => none) (fun _ => false) [3, 4, 5, 6] mayET 100000 (cFnL Try.prog) noTab 90 19 mayArgsF) mayRFk62n = true := check_leaf (by kernel_rfl)
def mayRFt62 : DT := .same 11 (0) .leaf .leaf
theorem mayRFh62 : mayRFt62.check (okF mayFmF Try.prog noOrc (fun _ => none) (fun _ => false) [3, 4, 5, 6] mayET 100000 (cFnL Try.prog) noTab 90 19 mayArgsF) mayRFk61y = true := check_same (Ky := mayRFk62y) (Kn := mayRFk62n) (i := ⟨-9223372036854775808, 9223372036854775807, []⟩) (by kernel_rfl) (by kernel_rfl) (by kernel_rfl) (.inr mayRFh63) (.inr mayRFh64)
theorem mayRFh65 : DT.leaf.check (okF mayFmF Try.prog noOrc (fun _ => none) (fun _ => false) [3, 4, 5, 6] mayET 100000 (cFnL Try.prog) noTab 90 19 mayArgsF) mayRFk61n = true := check_leaf (by kernel_rfl)
def mayRFt61 : DT := .same 9 (0) mayRFt62 .leaf
theorem mayRFh61 : mayRFt61.check (okF mayFmF Try.prog noOrc (fun _ => none) (fun _ => false) [3, 4, 5, 6] mayET 100000 (cFnL Try.prog) noTab 90 19 mayArgsF) mayRFk60y = true := check_same (Ky := mayRFk61y) (Kn := mayRFk61n) (i := ⟨-9223372036854775808, 9223372036854775807, []⟩) (by kernel_rfl) (by kernel_rfl) (by kernel_rfl) (.inr mayRFh62) (.inr mayRFh65)
theorem mayRFh66 : DT.leaf.check (okF mayFmF Try.prog noOrc (fun _ => none) (fun _ => false) [3, 4, 5, 6] mayET 100000 (cFnL Try.prog) noTab 90 19 mayArgsF) mayRFk60n = true := check_leaf (by kernel_rfl)
def mayRFt60 : DT := .less 1006 (17) mayRFt61 .leaf
theorem mayRFh60 : mayRFt60.check (okF mayFmF Try.prog noOrc (fun _ => none) (fun _ => false) [3, 4, 5, 6] mayET 100000 (cFnL Try.prog) noTab 90 19 mayArgsF) mayRFk58n = true := check_less (Ky := mayRFk60y) (Kn := mayRFk60n) (i := ⟨1, 10000, []⟩) (by kernel_rfl) (by kernel_rfl) (by kernel_rfl) (.inr mayRFh61) (.inr mayRFh66)
def mayRFt58 : DT := .less 1006 (1) .leaf mayRFt60
theorem mayRFh58 : mayRFt58.check (okF mayFmF Try.prog noOrc (fun _ => none) (fun _ => false) [3, 4, 5, 6] mayET 100000 (cFnL Try.prog) noTab 90 19 mayArgsF) mayRFk57y = true := check_less (Ky := mayRFk58y) (Kn := mayRFk58n) (i := ⟨0, 10000, []⟩) (by kernel_rfl) (by kernel_rfl) (by kernel_rfl) (.inr mayRFh59) (.inr mayRFh60)
theorem mayRFh67 : DT.leaf.check (okF mayFmF Try.prog noOrc (fun _ => none) (fun _ => false) [3, 4, 5, 6] mayET 100000 (cFnL Try.prog) noTab 90 19 mayArgsF) mayRFk57n = true := check_leaf (by kernel_rfl)
def mayRFt57 : DT := .less 1005 (17) mayRFt58 .leaf
theorem mayRFh57 : mayRFt57.check (okF mayFmF Try.prog noOrc (fun _ => none) (fun _ => false) [3, 4, 5, 6] mayET 100000 (cFnL Try.prog) noTab 90 19 mayArgsF) mayRFk55n = true := check_less (Ky := mayRFk57y) (Kn := mayRFk57n) (i := ⟨1, 10000, []⟩) (by kernel_rfl) (by kernel_rfl) (by kernel_rfl) (.inr mayRFh58) (.inr mayRFh67)
def mayRFt55 : DT := .less 1005 (1) .leaf mayRFt57
theorem mayRFh55 : mayRFt55.check (okF mayFmF Try.prog noOrc (fun _ => none) (fun _ => false) [3, 4, 5, 6] mayET 100000 (cFnL Try.prog) noTab 90 19 mayArgsF) mayRFk54y = true := check_less (Ky := mayRFk55y) (Kn := mayRFk55n) (i := ⟨0, 10000, []⟩) (by kernel_rfl) (by kernel_rfl) (by kernel_rfl) (.inr mayRFh56) (.inr mayRFh57)
theorem mayRFh68 : DT.leaf.check (okF mayFmF Try.prog noOrc (fun _ => none) (fun _ => false) [3, 4, 5, 6] mayET 100000 (cFnL Try.prog) noTab 90 19 mayArgsF) mayRFk54n = true := check_leaf (by kernel_rfl)
def mayRFt54 : DT := .less 8 (1048577) mayRFt55 .leaf
theorem mayRFh54 : mayRFt54.check (okF mayFmF Try.prog noOrc (fun _ => none) (fun _ => false) [3, 4, 5, 6] mayET 100000 (cFnL Try.prog) noTab 90 19 mayArgsF) mayRFk52n = true := check_less (Ky := mayRFk54y) (Kn := mayRFk54n) (i := ⟨1, 9223372036854775807, []⟩) (by kernel_rfl) (by kernel_rfl) (by kernel_rfl) (.inr mayRFh55) (.inr mayRFh68)
def mayRFt52 : DT := .less 8 (1) .leaf mayRFt54
theorem mayRFh52 : mayRFt52.check (okF mayFmF Try.prog noOrc (fun _ => none) (fun _ => false) [3, 4, 5, 6] mayET 100000 (cFnL Try.prog) noTab 90 19 mayArgsF) mayRFk51y = true := check_less (Ky := mayRFk52y) (Kn := mayRFk52n) (i := ⟨-9223372036854775808, 9223372036854775807, []⟩) (by kernel_rfl) (by kernel_rfl) (by kernel_rfl) (.inr mayRFh53) (.inr mayRFh54)
theorem mayRFh69 : DT.leaf.check (okF mayFmF Try.prog noOrc (fun _ => none) (fun _ => false) [3, 4, 5, 6] mayET 100000 (cFnL Try.prog) noTab 90 19 mayArgsF) mayRFk51n = true := check_leaf (by kernel_rfl)
def mayRFt51 : DT := .less 7 (4) mayRFt52 .leaf
theorem mayRFh51 : mayRFt51.check (okF mayFmF Try.prog noOrc (fun _ => none) (fun _ => false) [3, 4, 5, 6] mayET 100000 (cFnL Try.prog) noTab 90 19 mayArgsF) mayRFk49n = true := check_less (Ky := mayRFk51y) (Kn := mayRFk51n) (i := ⟨0, 9223372036854775807, []⟩) (by kernel_rfl) (by kernel_rfl) (by kernel_rfl) (.inr mayRFh52) (.inr mayRFh69)
def mayRFt49 : DT := .less 7 (0) .leaf mayRFt51
theorem mayRFh49 : mayRFt49.check (okF mayFmF Try.prog noOrc (fun _ => none) (fun _ => false) [3, 4, 5, 6] mayET 100000 (cFnL Try.prog) noTab 90 19 mayArgsF) mayRFk48y = true := check_less (Ky := mayRFk49y) (Kn := mayRFk49n) (i := ⟨-9223372036854775808, 9223372036854775807, []⟩) (by kernel_rfl) (by kernel_rfl) (by kernel_rfl) (.inr mayRFh50) (.inr mayRFh51)
def mayRFk70y : KB := mayRFk48n.put 0 ⟨3, 3, [2, 6, 1]⟩
def mayRFk70n : KB := mayRFk48n.put 0 ⟨-9223372036854775808, 9223372036854775807, [3, 2, 6, 1]⟩
def mayRFk71y : KB := mayRFk70y.put 7 ⟨-9223372036854775808, 0, []⟩
def mayRFk71n : KB := mayRFk70y.put 7 ⟨1, 9223372036854775807, []⟩
theorem mayRFh72 : DT.leaf.check (okF mayFmF Try.prog noOrc (fun _ => none) (fun _ => false) [3, 4, 5, 6] mayET 100000 (cFnL Try.prog) noTab 90 19 mayArgsF) mayRFk71y = true := check_leaf (by kernel_rfl)
def mayRFk73y : KB := mayRFk71n.put 7 ⟨1, 3, []⟩
def mayRFk73n : KB := mayRFk71n.put 7 ⟨4, 9223372036854775807, []⟩
def mayRFk74y : KB := mayRFk73y.put 8 ⟨-9223372036854775808, 0, []⟩
def mayRFk74n : KB := mayRFk73y.put 8 ⟨1, 9223372036854775807, []⟩
theorem mayRFh75 : DT.leaf.check (okF mayFmF Try.prog noOrc (fun _ => none) (fun _ => false) [3, 4, 5, 6] mayET 100000 (cFnL Try.prog) noTab 90 19 mayArgsF) mayRFk74y = true := check_leaf (by kernel_rfl)
def mayRFk76y : KB := mayRFk74n.put 8 ⟨1, 1048576, []⟩
def mayRFk76n : KB := mayRFk74n.put 8 ⟨1048577, 9223372036854775807, []⟩
def mayRFk77y : KB := mayRFk76y.put 9 ⟨-9223372036854775808, 0, []⟩
def mayRFk77n : KB := mayRFk76y.put 9 ⟨1, 9223372036854775807, []⟩
theorem mayRFh78 : DT.leaf.check (okF mayFmF Try.prog noOrc (fun _ => none) (fun _ => false) [3, 4, 5, 6] mayET 100000 (cFnL Try.prog) noTab 90 19 mayArgsF) mayRFk77y = true := check_leaf (by kernel_rfl)
def mayRFk79y : KB := mayRFk77n.put 9 ⟨1, 1024, []⟩
def mayRFk79n : KB := mayRFk77n.put 9 ⟨1025, 9223372036854775807, []⟩
def mayRFk80y : KB := mayRFk79y.put 1005 ⟨0, 0, []⟩
def mayRFk80n : KB := mayRFk79y.put 1005 ⟨1, 10000, []⟩
def mayRFk81y : KB := mayRFk80y.put 1006 ⟨0, 0, []⟩
def mayRFk81n : KB := mayRFk80y.put 1006 ⟨1, 10000, []⟩
def mayRFk82y : KB := mayRFk81y.put 11 ⟨0, 0, []⟩
def mayRFk82n : KB := mayRFk81y.put 11 ⟨-9223372036854775808, 9223372036854775807, [0]⟩
theorem mayRFh83 : DT.leaf.check (okF mayFmF Try.prog noOrc (fun _ => none) (fun _ => false) [3, 4, 5, 6] mayET 100000 (cFnL Try.prog) noTab 90 19 mayArgsF) mayRFk82y = true := check_leaf (by kernel_rfl)
theorem mayRFh84 : DT.leaf.check (okF mayFmF Try.prog noOrc (fun _ => none) (fun _ => false) [3, 4, 5, 6] mayET 100000 (cFnL Try.prog) noTab 90 19 mayArgsF) mayRFk82n = true := check_leaf (by kernel_rfl)
def mayRFt82 : DT := .same 11 (0) .leaf .leaf
theorem mayRFh82 : mayRFt82.check (okF mayFmF Try.prog noOrc (fun _ => none) (fun _ => false) [3, 4, 5, 6] mayET 100000 (cFnL Try.prog) noTab 90 19 mayArgsF) mayRFk81y = true := check_same (Ky := mayRFk82y) (Kn := mayRFk82n) (i := ⟨-9223372036854775808, 9223372036854775807, []⟩) (by kernel_rfl) (by kernel_rfl) (by kernel_rfl) (.inr mayRFh83) (.inr mayRFh84)
theorem mayRFh85 : DT.leaf.check (okF mayFmF Try.prog noOrc (fun _ => none) (fun _ => false) [3, 4, 5, 6] mayET 100000 (cFnL Try.prog) noTab 90 19 mayArgsF) mayRFk81n = true := check_leaf (by kernel_rfl)
def mayRFt81 : DT := .same 1006 (0) mayRFt82 .leaf
theorem mayRFh81 : mayRFt81.check (okF mayFmF Try.prog noOrc (fun _ => none) (fun _ => false) [3, 4, 5, 6] mayET 100000 (cFnL Try.prog) noTab 90 19 mayArgsF) mayRFk80y = true := check_same (Ky := mayRFk81y) (Kn := mayRFk81n) (i := ⟨0, 10000, []⟩) (by kernel_rfl) (by kernel_rfl) (by kernel_rfl) (.inr mayRFh82) (.inr mayRFh85)
theorem mayRFh86 : DT.leaf.check (okF mayFmF Try.prog noOrc (fun _ => none) (fun _ => false) [3, 4, 5, 6] mayET 100000 (cFnL Try.prog) noTab 90 19 mayArgsF) mayRFk80n = true := check_leaf (by kernel_rfl)
def mayRFt80 : DT := .same 1005 (0) mayRFt81 .leaf
theorem mayRFh80 : mayRFt80.check (okF mayFmF Try.prog noOrc (fun _ => none) (fun _ => false) [3, 4, 5, 6] mayET 100000 (cFnL Try.prog) noTab 90 19 mayArgsF) mayRFk79y = true := check_same (Ky := mayRFk80y) (Kn := mayRFk80n) (i := ⟨0, 10000, []⟩) (by kernel_rfl) (by kernel_rfl) (by kernel_rfl) (.inr mayRFh81) (.inr mayRFh86)
theorem mayRFh87 : DT.leaf.check (okF mayFmF Try.prog noOrc (fun _ => none) (fun _ => false) [3, 4, 5, 6] mayET 100000 (cFnL Try.prog) noTab 90 19 mayArgsF) mayRFk79n = true := check_leaf (by kernel_rfl)
def mayRFt79 : DT := .less 9 (1025) mayRFt80 .leaf
theorem mayRFh79 : mayRFt79.check (okF mayFmF Try.prog noOrc (fun _ => none) (fun _ => false) [3, 4, 5, 6] mayET 100000 (cFnL Try.prog) noTab 90 19 mayArgsF) mayRFk77n = true := check_less (Ky := mayRFk79y) (Kn := mayRFk79n) (i := ⟨1, 9223372036854775807, []⟩) (by kernel_rfl) (by kernel_rfl) (by kernel_rfl) (.inr mayRFh80) (.inr mayRFh87)
def mayRFt77 : DT := .less 9 (1) .leaf mayRFt79
theorem mayRFh77 : mayRFt77.check (okF mayFmF Try.prog noOrc (fun _ => none) (fun _ => false) [3, 4, 5, 6] mayET 100000 (cFnL Try.prog) noTab 90 19 mayArgsF) mayRFk76y = true := check_less (Ky := mayRFk77y) (Kn := mayRFk77n) (i := ⟨-9223372036854775808, 9223372036854775807, []⟩) (by kernel_rfl) (by kernel_rfl) (by kernel_rfl) (.inr mayRFh78) (.inr mayRFh79)
theorem mayRFh88 : DT.leaf.check (okF mayFmF Try.prog noOrc (fun _ => none) (fun _ => false) [3, 4, 5, 6] mayET 100000 (cFnL Try.prog) noTab 90 19 mayArgsF) mayRFk76n = true := check_leaf (by kernel_rfl)
def mayRFt76 : DT := .less 8 (1048577) mayRFt77 .leaf
theorem mayRFh76 : mayRFt76.check (okF mayFmF Try.prog noOrc (fun _ => none) (fun _ => false) [3, 4, 5, 6] mayET 100000 (cFnL Try.prog) noTab 90 19 mayArgsF) mayRFk74n = true := check_less (Ky := mayRFk76y) (Kn := mayRFk76n) (i := ⟨1, 9223372036854775807, []⟩) (by kernel_rfl) (by kernel_rfl) (by kernel_rfl) (.inr mayRFh77) (.inr mayRFh88)
def mayRFt74 : DT := .less 8 (1) .leaf mayRFt76
theorem mayRFh74 : mayRFt74.check (okF mayFmF Try.prog noOrc (fun _ => none) (fun _ => false) [3, 4, 5, 6] mayET 100000 (cFnL Try.prog) noTab 90 19 mayArgsF) mayRFk73y = true := check_less (Ky := mayRFk74y) (Kn := mayRFk74n) (i := ⟨-9223372036854775808, 9223372036854775807, []⟩) (by kernel_rfl) (by kernel_rfl) (by kernel_rfl) (.inr mayRFh75) (.inr mayRFh76)
theorem mayRFh89 : DT.leaf.check (okF mayFmF Try.prog noOrc (fun _ => none) (fun _ => false) [3, 4, 5, 6] mayET 100000 (cFnL Try.prog) noTab 90 19 mayArgsF) mayRFk73n = true := check_leaf (by kernel_rfl)
def mayRFt73 : DT := .less 7 (4) mayRFt74 .leaf
theorem mayRFh73 : mayRFt73.check (okF mayFmF Try.prog noOrc (fun _ => none) (fun _ => false) [3, 4, 5, 6] mayET 100000 (cFnL Try.prog) noTab 90 19 mayArgsF) mayRFk71n = true := check_less (Ky := mayRFk73y) (Kn := mayRFk73n) (i := ⟨1, 9223372036854775807, []⟩) (by kernel_rfl) (by kernel_rfl) (by kernel_rfl) (.inr mayRFh74) (.inr mayRFh89)
def mayRFt71 : DT := .less 7 (1) .leaf mayRFt73
theorem mayRFh71 : mayRFt71.check (okF mayFmF Try.prog noOrc (fun _ => none) (fun _ => false) [3, 4, 5, 6] mayET 100000 (cFnL Try.prog) noTab 90 19 mayArgsF) mayRFk70y = true := check_less (Ky := mayRFk71y) (Kn := mayRFk71n) (i := ⟨-9223372036854775808, 9223372036854775807, []⟩) (by kernel_rfl) (by kernel_rfl) (by kernel_rfl) (.inr mayRFh72) (.inr mayRFh73)
def mayRFk90y : KB := mayRFk70n.put 0 ⟨4, 4, [3, 2, 6, 1]⟩
def mayRFk90n : KB := mayRFk70n.put 0 ⟨-9223372036854775808, 9223372036854775807, [4, 3, 2, 6, 1]⟩
def mayRFk91y : KB := mayRFk90y.put 11 ⟨-9223372036854775808, 0, []⟩
def mayRFk91n : KB := mayRFk90y.put 11 ⟨1, 9223372036854775807, []⟩
theorem mayRFh92 : DT.leaf.check (okF mayFmF Try.prog noOrc (fun _ => none) (fun _ => false) [3, 4, 5, 6] mayET 100000 (cFnL Try.prog) noTab 90 19 mayArgsF) mayRFk91y = true := check_leaf (by kernel_rfl)
def mayRFk93y : KB := mayRFk91n.put 11 ⟨1, 1099511627776, []⟩
def mayRFk93n : KB := mayRFk91n.put 11 ⟨1099511627777, 9223372036854775807, []⟩
def mayRFk94y : KB := mayRFk93y.put 1005 ⟨0, 0, []⟩
def mayRFk94n : KB := mayRFk93y.put 1005 ⟨1, 10000, []⟩
def mayRFk95y : KB := mayRFk94y.put 1006 ⟨0, 0, []⟩
def mayRFk95n : KB := mayRFk94y.put 1006 ⟨1, 10000, []⟩
def mayRFk96y : KB := mayRFk95y.put 7 ⟨0, 0, []⟩
def mayRFk96n : KB := mayRFk95y.put 7 ⟨-9223372036854775808, 9223372036854775807, [0]⟩
def mayRFk97y : KB := mayRFk96y.put 8 ⟨0, 0, []⟩
def mayRFk97n : KB := mayRFk96y.put 8 ⟨-9223372036854775808, 9223372036854775807, [0]⟩
def mayRFk98y : KB := mayRFk97y.put 9 ⟨0, 0, []⟩
def mayRFk98n : KB := mayRFk97y.put 9 ⟨-9223372036854775808, 9223372036854775807, [0]⟩
theorem mayRFh99 : DT.leaf.check (okF mayFmF Try.prog noOrc (fun _ => none) (fun _ => false) [3, 4, 5, 6] mayET 100000 (cFnL Try.prog) noTab 90 19 mayArgsF) mayRFk98y = true := check_leaf (by kernel_rfl)
theorem mayRFh100 : DT.leaf.check (okF mayFmF Try.prog noOrc (fun _ => none) (fun _ => false) [3, 4, 5, 6] mayET 100000 (cFnL Try.prog) noTab 90 19 mayArgsF) mayRFk98n = true := check_leaf (by kernel_rfl)
def mayRFt98 : DT := .same 9 (0) .leaf .leaf
theorem mayRFh98 : mayRFt98.check (okF mayFmF Try.prog noOrc (fun _ => none) (fun _ => false) [3, 4, 5, 6] mayET 100000 (cFnL Try.prog) noTab 90 19 mayArgsF) mayRFk97y = true := check_same (Ky := mayRFk98y) (Kn := mayRFk98n) (i := ⟨-9223372036854775808, 9223372036854775807, []⟩) (by kernel_rfl) (by kernel_rfl) (by kernel_rfl) (.inr mayRFh99) (.inr mayRFh100)
theorem mayRFh101 : DT.leaf.check (okF mayFmF Try.prog noOrc (fun _ => none) (fun _ => false) [3, 4, 5, 6] mayET 100000 (cFnL Try.prog) noTab 90 19 mayArgsF) mayRFk97n = true := check_leaf (by kernel_rfl)
def mayRFt97 : DT := .same 8 (0) mayRFt98 .leaf
theorem mayRFh97 : mayRFt97.check (okF mayFmF Try.prog noOrc (fun _ => none) (fun _ => false) [3, 4, 5, 6] mayET 100000 (cFnL Try.prog) noTab 90 19 mayArgsF) mayRFk96y = true := check_same (Ky := mayRFk97y) (Kn := mayRFk97n) (i := ⟨-9223372036854775808, 9223372036854775807, []⟩) (by kernel_rfl) (by kernel_rfl) (by kernel_rfl) (.inr mayRFh98) (.inr mayRFh101)
theorem mayRFh102 : DT.leaf.check (okF mayFmF Try.prog noOrc (fun _ => none) (fun _ => false) [3, 4, 5, 6] mayET 100000 (cFnL Try.prog) noTab 90 19 mayArgsF) mayRFk96n = true := check_leaf (by kernel_rfl)
def mayRFt96 : DT := .same 7 (0) mayRFt97 .leaf
theorem mayRFh96 : mayRFt96.check (okF mayFmF Try.prog noOrc (fun _ => none) (fun _ => false) [3, 4, 5, 6] mayET 100000 (cFnL Try.prog) noTab 90 19 mayArgsF) mayRFk95y = true := check_same (Ky := mayRFk96y) (Kn := mayRFk96n) (i := ⟨-9223372036854775808, 9223372036854775807, []⟩) (by kernel_rfl) (by kernel_rfl) (by kernel_rfl) (.inr mayRFh97) (.inr mayRFh102)
theorem mayRFh103 : DT.leaf.check (okF mayFmF Try.prog noOrc (fun _ => none) (fun _ => false) [3, 4, 5, 6] mayET 100000 (cFnL Try.prog) noTab 90 19 mayArgsF) mayRFk95n = true := check_leaf (by kernel_rfl)
def mayRFt95 : DT := .same 1006 (0) mayRFt96 .leaf
theorem mayRFh95 : mayRFt95.check (okF mayFmF Try.prog noOrc (fun _ => none) (fun _ => false) [3, 4, 5, 6] mayET 100000 (cFnL Try.prog) noTab 90 19 mayArgsF) mayRFk94y = true := check_same (Ky := mayRFk95y) (Kn := mayRFk95n) (i := ⟨0, 10000, []⟩) (by kernel_rfl) (by kernel_rfl) (by kernel_rfl) (.inr mayRFh96) (.inr mayRFh103)
theorem mayRFh104 : DT.leaf.check (okF mayFmF Try.prog noOrc (fun _ => none) (fun _ => false) [3, 4, 5, 6] mayET 100000 (cFnL Try.prog) noTab 90 19 mayArgsF) mayRFk94n = true := check_leaf (by kernel_rfl)
def mayRFt94 : DT := .same 1005 (0) mayRFt95 .leaf
theorem mayRFh94 : mayRFt94.check (okF mayFmF Try.prog noOrc (fun _ => none) (fun _ => false) [3, 4, 5, 6] mayET 100000 (cFnL Try.prog) noTab 90 19 mayArgsF) mayRFk93y = true := check_same (Ky := mayRFk94y) (Kn := mayRFk94n) (i := ⟨0, 10000, []⟩) (by kernel_rfl) (by kernel_rfl) (by kernel_rfl) (.inr mayRFh95) (.inr mayRFh104)
theorem mayRFh105 : DT.leaf.check (okF mayFmF Try.prog noOrc (fun _ => none) (fun _ => false) [3, 4, 5, 6] mayET 100000 (cFnL Try.prog) noTab 90 19 mayArgsF) mayRFk93n = true := check_leaf (by kernel_rfl)
def mayRFt93 : DT := .less 11 (1099511627777) mayRFt94 .leaf
theorem mayRFh93 : mayRFt93.check (okF mayFmF Try.prog noOrc (fun _ => none) (fun _ => false) [3, 4, 5, 6] mayET 100000 (cFnL Try.prog) noTab 90 19 mayArgsF) mayRFk91n = true := check_less (Ky := mayRFk93y) (Kn := mayRFk93n) (i := ⟨1, 9223372036854775807, []⟩) (by kernel_rfl) (by kernel_rfl) (by kernel_rfl) (.inr mayRFh94) (.inr mayRFh105)
def mayRFt91 : DT := .less 11 (1) .leaf mayRFt93
theorem mayRFh91 : mayRFt91.check (okF mayFmF Try.prog noOrc (fun _ => none) (fun _ => false) [3, 4, 5, 6] mayET 100000 (cFnL Try.prog) noTab 90 19 mayArgsF) mayRFk90y = true := check_less (Ky := mayRFk91y) (Kn := mayRFk91n) (i := ⟨-9223372036854775808, 9223372036854775807, []⟩) (by kernel_rfl) (by kernel_rfl) (by kernel_rfl) (.inr mayRFh92) (.inr mayRFh93)
def mayRFk106y : KB := mayRFk90n.put 0 ⟨5, 5, [4, 3, 2, 6, 1]⟩
def mayRFk106n : KB := mayRFk90n.put 0 ⟨-9223372036854775808, 9223372036854775807, [5, 4, 3, 2, 6, 1]⟩
def mayRFk107y : KB := mayRFk106y.put 1005 ⟨0, 0, []⟩
def mayRFk107n : KB := mayRFk106y.put 1005 ⟨1, 10000, []⟩
def mayRFk108y : KB := mayRFk107y.put 1006 ⟨0, 0, []⟩
def mayRFk108n : KB := mayRFk107y.put 1006 ⟨1, 10000, []⟩
def mayRFk109y : KB := mayRFk108y.put 7 ⟨0, 0, []⟩
def mayRFk109n : KB := mayRFk108y.put 7 ⟨-9223372036854775808, 9223372036854775807, [0]⟩
def mayRFk110y : KB := mayRFk109y.put 8 ⟨0, 0, []⟩
def mayRFk110n : KB := mayRFk109y.put 8 ⟨-9223372036854775808, 9223372036854775807, [0]⟩
def mayRFk111y : KB := mayRFk110y.put 9 ⟨0, 0, []⟩
def mayRFk111n : KB := mayRFk110y.put 9 ⟨-9223372036854775808, 9223372036854775807, [0]⟩
def mayRFk112y : KB := mayRFk111y.put 11 ⟨0, 0, []⟩
def mayRFk112n : KB := mayRFk111y.put 11 ⟨-9223372036854775808, 9223372036854775807, [0]⟩
theorem mayRFh113 : DT.leaf.check (okF mayFmF Try.prog noOrc (fun _ => none) (fun _ => false) [3, 4, 5, 6] mayET 100000 (cFnL Try.prog) noTab 90 19 mayArgsF) mayRFk112y = true := check_leaf (by kernel_rfl)
theorem mayRFh114 : DT.leaf.check (okF mayFmF Try.prog noOrc (fun _ => none) (fun _ => false) [3, 4, 5, 6] mayET 100000 (cFnL Try.prog) noTab 90 19 mayArgsF) mayRFk112n = true := check_leaf (by kernel_rfl)
def mayRFt112 : DT := .same 11 (0) .leaf .leaf
theorem mayRFh112 : mayRFt112.check (okF mayFmF Try.prog noOrc (fun _ => none) (fun _ => false) [3, 4, 5, 6] mayET 100000 (cFnL Try.prog) noTab 90 19 mayArgsF) mayRFk111y = true := check_same (Ky := mayRFk112y) (Kn := mayRFk112n) (i := ⟨-9223372036854775808, 9223372036854775807, []⟩) (by kernel_rfl) (by kernel_rfl) (by kernel_rfl) (.inr mayRFh113) (.inr mayRFh114)
theorem mayRFh115 : DT.leaf.check (okF mayFmF Try.prog noOrc (fun _ => none) (fun _ => false) [3, 4, 5, 6] mayET 100000 (cFnL Try.prog) noTab 90 19 mayArgsF) mayRFk111n = true := check_leaf (by kernel_rfl)
def mayRFt111 : DT := .same 9 (0) mayRFt112 .leaf
theorem mayRFh111 : mayRFt111.check (okF mayFmF Try.prog noOrc (fun _ => none) (fun _ => false) [3, 4, 5, 6] mayET 100000 (cFnL Try.prog) noTab 90 19 mayArgsF) mayRFk110y = true := check_same (Ky := mayRFk111y) (Kn := mayRFk111n) (i := ⟨-9223372036854775808, 9223372036854775807, []⟩) (by kernel_rfl) (by kernel_rfl) (by kernel_rfl) (.inr mayRFh112) (.inr mayRFh115)
theorem mayRFh116 : DT.leaf.check (okF mayFmF Try.prog noOrc (fun _ => none) (fun _ => false) [3, 4, 5, 6] mayET 100000 (cFnL Try.prog) noTab 90 19 mayArgsF) mayRFk110n = true := check_leaf (by kernel_rfl)
def mayRFt110 : DT := .same 8 (0) mayRFt111 .leaf
theorem mayRFh110 : mayRFt110.check (okF mayFmF Try.prog noOrc (fun _ => none) (fun _ => false) [3, 4, 5, 6] mayET 100000 (cFnL Try.prog) noTab 90 19 mayArgsF) mayRFk109y = true := check_same (Ky := mayRFk110y) (Kn := mayRFk110n) (i := ⟨-9223372036854775808, 9223372036854775807, []⟩) (by kernel_rfl) (by kernel_rfl) (by kernel_rfl) (.inr mayRFh111) (.inr mayRFh116)
theorem mayRFh117 : DT.leaf.check (okF mayFmF Try.prog noOrc (fun _ => none) (fun _ => false) [3, 4, 5, 6] mayET 100000 (cFnL Try.prog) noTab 90 19 mayArgsF) mayRFk109n = true := check_leaf (by kernel_rfl)
def mayRFt109 : DT := .same 7 (0) mayRFt110 .leaf
theorem mayRFh109 : mayRFt109.check (okF mayFmF Try.prog noOrc (fun _ => none) (fun _ => false) [3, 4, 5, 6] mayET 100000 (cFnL Try.prog) noTab 90 19 mayArgsF) mayRFk108y = true := check_same (Ky := mayRFk109y) (Kn := mayRFk109n) (i := ⟨-9223372036854775808, 9223372036854775807, []⟩) (by kernel_rfl) (by kernel_rfl) (by kernel_rfl) (.inr mayRFh110) (.inr mayRFh117)
theorem mayRFh118 : DT.leaf.check (okF mayFmF Try.prog noOrc (fun _ => none) (fun _ => false) [3, 4, 5, 6] mayET 100000 (cFnL Try.prog) noTab 90 19 mayArgsF) mayRFk108n = true := check_leaf (by kernel_rfl)
def mayRFt108 : DT := .same 1006 (0) mayRFt109 .leaf
theorem mayRFh108 : mayRFt108.check (okF mayFmF Try.prog noOrc (fun _ => none) (fun _ => false) [3, 4, 5, 6] mayET 100000 (cFnL Try.prog) noTab 90 19 mayArgsF) mayRFk107y = true := check_same (Ky := mayRFk108y) (Kn := mayRFk108n) (i := ⟨0, 10000, []⟩) (by kernel_rfl) (by kernel_rfl) (by kernel_rfl) (.inr mayRFh109) (.inr mayRFh118)
theorem mayRFh119 : DT.leaf.check (okF mayFmF Try.prog noOrc (fun _ => none) (fun _ => false) [3, 4, 5, 6] mayET 100000 (cFnL Try.prog) noTab 90 19 mayArgsF) mayRFk107n = true := check_leaf (by kernel_rfl)
def mayRFt107 : DT := .same 1005 (0) mayRFt108 .leaf
theorem mayRFh107 : mayRFt107.check (okF mayFmF Try.prog noOrc (fun _ => none) (fun _ => false) [3, 4, 5, 6] mayET 100000 (cFnL Try.prog) noTab 90 19 mayArgsF) mayRFk106y = true := check_same (Ky := mayRFk107y) (Kn := mayRFk107n) (i := ⟨0, 10000, []⟩) (by kernel_rfl) (by kernel_rfl) (by kernel_rfl) (.inr mayRFh108) (.inr mayRFh119)
def mayRFk120y : KB := mayRFk106n.put 0 ⟨7, 7, [5, 4, 3, 2, 6, 1]⟩
def mayRFk120n : KB := mayRFk106n.put 0 ⟨-9223372036854775808, 9223372036854775807, [7, 5, 4, 3, 2, 6, 1]⟩
def mayRFk121y : KB := mayRFk120y.put 1005 ⟨0, 0, []⟩
def mayRFk121n : KB := mayRFk120y.put 1005 ⟨1, 10000, []⟩
def mayRFk122y : KB := mayRFk121y.put 1006 ⟨0, 0, []⟩
def mayRFk122n : KB := mayRFk121y.put 1006 ⟨1, 10000, []⟩
def mayRFk123y : KB := mayRFk122y.put 7 ⟨0, 0, []⟩
def mayRFk123n : KB := mayRFk122y.put 7 ⟨-9223372036854775808, 9223372036854775807, [0]⟩
def mayRFk124y : KB := mayRFk123y.put 8 ⟨0, 0, []⟩
def mayRFk124n : KB := mayRFk123y.put 8 ⟨-9223372036854775808, 9223372036854775807, [0]⟩
def mayRFk125y : KB := mayRFk124y.put 9 ⟨0, 0, []⟩
def mayRFk125n : KB := mayRFk124y.put 9 ⟨-9223372036854775808, 9223372036854775807, [0]⟩
def mayRFk126y : KB := mayRFk125y.put 11 ⟨0, 0, []⟩
def mayRFk126n : KB := mayRFk125y.put 11 ⟨-9223372036854775808, 9223372036854775807, [0]⟩
theorem mayRFh127 : DT.leaf.check (okF mayFmF Try.prog noOrc (fun _ => none) (fun _ => false) [3, 4, 5, 6] mayET 100000 (cFnL Try.prog) noTab 90 19 mayArgsF) mayRFk126y = true := check_leaf (by kernel_rfl)
theorem mayRFh128 : DT.leaf.check (okF mayFmF Try.prog noOrc (fun _ => none) (fun _ => false) [3, 4, 5, 6] mayET 100000 (cFnL Try.prog) noTab 90 19 mayArgsF) mayRFk126n = true := check_leaf (by kernel_rfl)
def mayRFt126 : DT := .same 11 (0) .leaf .leaf
theorem mayRFh126 : mayRFt126.check (okF mayFmF Try.prog noOrc (fun _ => none) (fun _ => false) [3, 4, 5, 6] mayET 100000 (cFnL Try.prog) noTab 90 19 mayArgsF) mayRFk125y = true := check_same (Ky := mayRFk126y) (Kn := mayRFk126n) (i := ⟨-9223372036854775808, 9223372036854775807, []⟩) (by kernel_rfl) (by kernel_rfl) (by kernel_rfl) (.inr mayRFh127) (.inr mayRFh128)
theorem mayRFh129 : DT.leaf.check (okF mayFmF Try.prog noOrc (fun _ => none) (fun _ => false) [3, 4, 5, 6] mayET 100000 (cFnL Try.prog) noTab 90 19 mayArgsF) mayRFk125n = true := check_leaf (by kernel_rfl)
def mayRFt125 : DT := .same 9 (0) mayRFt126 .leaf
theorem mayRFh125 : mayRFt125.check (okF mayFmF Try.prog noOrc (fun _ => none) (fun _ => false) [3, 4, 5, 6] mayET 100000 (cFnL Try.prog) noTab 90 19 mayArgsF) mayRFk124y = true := check_same (Ky := mayRFk125y) (Kn := mayRFk125n) (i := ⟨-9223372036854775808, 9223372036854775807, []⟩) (by kernel_rfl) (by kernel_rfl) (by kernel_rfl) (.inr mayRFh126) (.inr mayRFh129)
theorem mayRFh130 : DT.leaf.check (okF mayFmF Try.prog noOrc (fun _ => none) (fun _ => false) [3, 4, 5, 6] mayET 100000 (cFnL Try.prog) noTab 90 19 mayArgsF) mayRFk124n = true := check_leaf (by kernel_rfl)
def mayRFt124 : DT := .same 8 (0) mayRFt125 .leaf
theorem mayRFh124 : mayRFt124.check (okF mayFmF Try.prog noOrc (fun _ => none) (fun _ => false) [3, 4, 5, 6] mayET 100000 (cFnL Try.prog) noTab 90 19 mayArgsF) mayRFk123y = true := check_same (Ky := mayRFk124y) (Kn := mayRFk124n) (i := ⟨-9223372036854775808, 9223372036854775807, []⟩) (by kernel_rfl) (by kernel_rfl) (by kernel_rfl) (.inr mayRFh125) (.inr mayRFh130)
theorem mayRFh131 : DT.leaf.check (okF mayFmF Try.prog noOrc (fun _ => none) (fun _ => false) [3, 4, 5, 6] mayET 100000 (cFnL Try.prog) noTab 90 19 mayArgsF) mayRFk123n = true := check_leaf (by kernel_rfl)
def mayRFt123 : DT := .same 7 (0) mayRFt124 .leaf
theorem mayRFh123 : mayRFt123.check (okF mayFmF Try.prog noOrc (fun _ => none) (fun _ => false) [3, 4, 5, 6] mayET 100000 (cFnL Try.prog) noTab 90 19 mayArgsF) mayRFk122y = true := check_same (Ky := mayRFk123y) (Kn := mayRFk123n) (i := ⟨-9223372036854775808, 9223372036854775807, []⟩) (by kernel_rfl) (by kernel_rfl) (by kernel_rfl) (.inr mayRFh124) (.inr mayRFh131)
theorem mayRFh132 : DT.leaf.check (okF mayFmF Try.prog noOrc (fun _ => none) (fun _ => false) [3, 4, 5, 6] mayET 100000 (cFnL Try.prog) noTab 90 19 mayArgsF) mayRFk122n = true := check_leaf (by kernel_rfl)
def mayRFt122 : DT := .same 1006 (0) mayRFt123 .leaf
theorem mayRFh122 : mayRFt122.check (okF mayFmF Try.prog noOrc (fun _ => none) (fun _ => false) [3, 4, 5, 6] mayET 100000 (cFnL Try.prog) noTab 90 19 mayArgsF) mayRFk121y = true := check_same (Ky := mayRFk122y) (Kn := mayRFk122n) (i := ⟨0, 10000, []⟩) (by kernel_rfl) (by kernel_rfl) (by kernel_rfl) (.inr mayRFh123) (.inr mayRFh132)
theorem mayRFh133 : DT.leaf.check (okF mayFmF Try.prog noOrc (fun _ => none) (fun _ => false) [3, 4, 5, 6] mayET 100000 (cFnL Try.prog) noTab 90 19 mayArgsF) mayRFk121n = true := check_leaf (by kernel_rfl)
def mayRFt121 : DT := .same 1005 (0) mayRFt122 .leaf
theorem mayRFh121 : mayRFt121.check (okF mayFmF Try.prog noOrc (fun _ => none) (fun _ => false) [3, 4, 5, 6] mayET 100000 (cFnL Try.prog) noTab 90 19 mayArgsF) mayRFk120y = true := check_same (Ky := mayRFk121y) (Kn := mayRFk121n) (i := ⟨0, 10000, []⟩) (by kernel_rfl) (by kernel_rfl) (by kernel_rfl) (.inr mayRFh122) (.inr mayRFh133)
theorem mayRFh134 : DT.leaf.check (okF mayFmF Try.prog noOrc (fun _ => none) (fun _ => false) [3, 4, 5, 6] mayET 100000 (cFnL Try.prog) noTab 90 19 mayArgsF) mayRFk120n = true := check_leaf (by kernel_rfl)
def mayRFt120 : DT := .same 0 (7) mayRFt121 .leaf
theorem mayRFh120 : mayRFt120.check (okF mayFmF Try.prog noOrc (fun _ => none) (fun _ => false) [3, 4, 5, 6] mayET 100000 (cFnL Try.prog) noTab 90 19 mayArgsF) mayRFk106n = true := check_same (Ky := mayRFk120y) (Kn := mayRFk120n) (i := ⟨-9223372036854775808, 9223372036854775807, [5, 4, 3, 2, 6, 1]⟩) (by kernel_rfl) (by kernel_rfl) (by kernel_rfl) (.inr mayRFh121) (.inr mayRFh134)
def mayRFt106 : DT := .same 0 (5) mayRFt107 mayRFt120
theorem mayRFh106 : mayRFt106.check (okF mayFmF Try.prog noOrc (fun _ => none) (fun _ => false) [3, 4, 5, 6] mayET 100000 (cFnL Try.prog) noTab 90 19 mayArgsF) mayRFk90n = true := check_same (Ky := mayRFk106y) (Kn := mayRFk106n) (i := ⟨-9223372036854775808, 9223372036854775807, [4, 3, 2, 6, 1]⟩) (by kernel_rfl) (by kernel_rfl) (by kernel_rfl) (.inr mayRFh107) (.inr mayRFh120)
def mayRFt90 : DT := .same 0 (4) mayRFt91 mayRFt106
theorem mayRFh90 : mayRFt90.check (okF mayFmF Try.prog noOrc (fun _ => none) (fun _ => false) [3, 4, 5, 6] mayET 100000 (cFnL Try.prog) noTab 90 19 mayArgsF) mayRFk70n = true := check_same (Ky := mayRFk90y) (Kn := mayRFk90n) (i := ⟨-9223372036854775808, 9223372036854775807, [3, 2, 6, 1]⟩) (by kernel_rfl) (by kernel_rfl) (by kernel_rfl) (.inr mayRFh91) (.inr mayRFh106)
def mayRFt70 : DT := .same 0 (3) mayRFt71 mayRFt90
theorem mayRFh70 : mayRFt70.check (okF mayFmF Try.prog noOrc (fun _ => none) (fun _ => false) [3, 4, 5, 6] mayET 100000 (cFnL Try.prog) noTab 90 19 mayArgsF) mayRFk48n = true := check_same (Ky := mayRFk70y) (Kn := mayRFk70n) (i := ⟨-9223372036854775808, 9223372036854775807, [2, 6, 1]⟩) (by kernel_rfl) (by kernel_rfl) (by kernel_rfl) (.inr mayRFh71) (.inr mayRFh90)
def mayRFt48 : DT := .same 0 (2) mayRFt49 mayRFt70
theorem mayRFh48 : mayRFt48.check (okF mayFmF Try.prog noOrc (fun _ => none) (fun _ => false) [3, 4, 5, 6] mayET 100000 (cFnL Try.prog) noTab 90 19 mayArgsF) mayRFk30n = true := check_same (Ky := mayRFk48y) (Kn := mayRFk48n) (i := ⟨-9223372036854775808, 9223372036854775807, [6, 1]⟩) (by kernel_rfl) (by kernel_rfl) (by kernel_rfl) (.inr mayRFh49) (.inr mayRFh70)
def mayRFt30 : DT := .same 0 (6) mayRFt31 mayRFt48
theorem mayRFh30 : mayRFt30.check (okF mayFmF Try.prog noOrc (fun _ => none) (fun _ => false) [3, 4, 5, 6] mayET 100000 (cFnL Try.prog) noTab 90 19 mayArgsF) mayRFk12n = true := check_same (Ky := mayRFk30y) (Kn := mayRFk30n) (i := ⟨-9223372036854775808, 9223372036854775807, [1]⟩) (by kernel_rfl) (by kernel_rfl) (by kernel_rfl) (.inr mayRFh31) (.inr mayRFh48)
def mayRFt12 : DT := .same 0 (1) mayRFt13 mayRFt30
theorem mayRFh12 : mayRFt12.check (okF mayFmF Try.prog noOrc (fun _ => none) (fun _ => false) [3, 4, 5, 6] mayET 100000 (cFnL Try.prog) noTab 90 19 mayArgsF) mayRFk11y = true := check_same (Ky := mayRFk12y) (Kn := mayRFk12n) (i := ⟨-9223372036854775808, 9223372036854775807, []⟩) (by kernel_rfl) (by kernel_rfl) (by kernel_rfl) (.inr mayRFh13) (.inr mayRFh30)
theorem mayRFh135 : DT.leaf.check (okF mayFmF Try.prog noOrc (fun _ => none) (fun _ => false) [3, 4, 5, 6] mayET 100000 (cFnL Try.prog) noTab 90 19 mayArgsF) mayRFk11n = true := check_leaf (by kernel_rfl)
def mayRFt11 : DT := .less 1004 (17) mayRFt12 .leaf
theorem mayRFh11 : mayRFt11.check (okF mayFmF Try.prog noOrc (fun _ => none) (fun _ => false) [3, 4, 5, 6] mayET 100000 (cFnL Try.prog) noTab 90 19 mayArgsF) mayRFk9n = true := check_less (Ky := mayRFk11y) (Kn := mayRFk11n) (i := ⟨1, 10000, []⟩) (by kernel_rfl) (by kernel_rfl) (by kernel_rfl) (.inr mayRFh12) (.inr mayRFh135)
def mayRFt9 : DT := .less 1004 (1) .leaf mayRFt11
theorem mayRFh9 : mayRFt9.check (okF mayFmF Try.prog noOrc (fun _ => none) (fun _ => false) [3, 4, 5, 6] mayET 100000 (cFnL Try.prog) noTab 90 19 mayArgsF) mayRFk8y = true := check_less (Ky := mayRFk9y) (Kn := mayRFk9n) (i := ⟨0, 10000, []⟩) (by kernel_rfl) (by kernel_rfl) (by kernel_rfl) (.inr mayRFh10) (.inr mayRFh11)
theorem mayRFh136 : DT.leaf.check (okF mayFmF Try.prog noOrc (fun _ => none) (fun _ => false) [3, 4, 5, 6] mayET 100000 (cFnL Try.prog) noTab 90 19 mayArgsF) mayRFk8n = true := check_leaf (by kernel_rfl)
def mayRFt8 : DT := .less 1003 (17) mayRFt9 .leaf
theorem mayRFh8 : mayRFt8.check (okF mayFmF Try.prog noOrc (fun _ => none) (fun _ => false) [3, 4, 5, 6] mayET 100000 (cFnL Try.prog) noTab 90 19 mayArgsF) mayRFk6n = true := check_less (Ky := mayRFk8y) (Kn := mayRFk8n) (i := ⟨1, 10000, []⟩) (by kernel_rfl) (by kernel_rfl) (by kernel_rfl) (.inr mayRFh9) (.inr mayRFh136)
def mayRFt6 : DT := .less 1003 (1) .leaf mayRFt8
theorem mayRFh6 : mayRFt6.check (okF mayFmF Try.prog noOrc (fun _ => none) (fun _ => false) [3, 4, 5, 6] mayET 100000 (cFnL Try.prog) noTab 90 19 mayArgsF) mayRFk5y = true := check_less (Ky := mayRFk6y) (Kn := mayRFk6n) (i := ⟨0, 10000, []⟩) (by kernel_rfl) (by kernel_rfl) (by kernel_rfl) (.inr mayRFh7) (.inr mayRFh8)
theorem mayRFh137 : DT.leaf.check (okF mayFmF Try.prog noOrc (fun _ => none) (fun _ => false) [3, 4, 5, 6] mayET 100000 (cFnL Try.prog) noTab 90 19 mayArgsF) mayRFk5n = true := check_leaf (by kernel_rfl)
def mayRFt5 : DT := .less 2 (1099511627777) mayRFt6 .leaf
theorem mayRFh5 : mayRFt5.check (okF mayFmF Try.prog noOrc (fun _ => none) (fun _ => false) [3, 4, 5, 6] mayET 100000 (cFnL Try.prog) noTab 90 19 mayArgsF) mayRFk3n = true := check_less (Ky := mayRFk5y) (Kn := mayRFk5n) (i := ⟨1, 9223372036854775807, []⟩) (by kernel_rfl) (by kernel_rfl) (by kernel_rfl) (.inr mayRFh6) (.inr mayRFh137)
def mayRFt3 : DT := .less 2 (1) .leaf mayRFt5
theorem mayRFh3 : mayRFt3.check (okF mayFmF Try.prog noOrc (fun _ => none) (fun _ => false) [3, 4, 5, 6] mayET 100000 (cFnL Try.prog) noTab 90 19 mayArgsF) mayRFk2y = true := check_less (Ky := mayRFk3y) (Kn := mayRFk3n) (i := ⟨-9223372036854775808, 9223372036854775807, []⟩) (by kernel_rfl) (by kernel_rfl) (by kernel_rfl) (.inr mayRFh4) (.inr mayRFh5)
theorem mayRFh138 : DT.leaf.check (okF mayFmF Try.prog noOrc (fun _ => none) (fun _ => false) [3, 4, 5, 6] mayET 100000 (cFnL Try.prog) noTab 90 19 mayArgsF) mayRFk2n = true := check_leaf (by kernel_rfl)
def mayRFt2 : DT := .less 1 (1048577) mayRFt3 .leaf
theorem mayRFh2 : mayRFt2.check (okF mayFmF Try.prog noOrc (fun _ => none) (fun _ => false) [3, 4, 5, 6] mayET 100000 (cFnL Try.prog) noTab 90 19 mayArgsF) mayRFk0n = true := check_less (Ky := mayRFk2y) (Kn := mayRFk2n) (i := ⟨1, 9223372036854775807, []⟩) (by kernel_rfl) (by kernel_rfl) (by kernel_rfl) (.inr mayRFh3) (.inr mayRFh138)
def mayRFt0 : DT := .less 1 (1) .leaf mayRFt2
theorem mayRFh0 : mayRFt0.check (okF mayFmF Try.prog noOrc (fun _ => none) (fun _ => false) [3, 4, 5, 6] mayET 100000 (cFnL Try.prog) noTab 90 19 mayArgsF) mayKB = true := check_less (Ky := mayRFk0y) (Kn := mayRFk0n) (i := ⟨-9223372036854775808, 9223372036854775807, []⟩) (by kernel_rfl) (by kernel_rfl) (by kernel_rfl) (.inr mayRFh1) (.inr mayRFh2)
theorem mayRFCheck : mayRFt0.check (okF mayFmF Try.prog noOrc (fun _ => none) (fun _ => false) [3, 4, 5, 6] mayET 100000 (cFnL Try.prog) noTab 90 19 mayArgsF) mayKB = true := mayRFh0
end Go.Proofs.Ytblknjclkecglaa
