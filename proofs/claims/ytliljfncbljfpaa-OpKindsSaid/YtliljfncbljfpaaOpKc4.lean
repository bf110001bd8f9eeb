/- OpKinds: tree 4. -/
import Derived.Test.YtliljfncbljfpaaOpKa
import Derived.ProofKit
namespace Go.Proofs.Ytliljfncbljfpaa
open Go.RowKit
set_option linter.unusedVariables false
set_option linter.unusedSimpArgs false
set_option maxRecDepth 100000

def opkKB4 : KB := opkKB ⟨0, 0, []⟩ ⟨1099511627776, 1099511627776, []⟩
def opk4k0y : KB := opkKB4.put 1003 ⟨0, 2000, []⟩
def opk4k0n : KB := opkKB4.put 1003 ⟨2001, 9223372036854775807, []⟩
def opk4k1y : KB := opk4k0y.put 1004 ⟨0, 2000, []⟩
def opk4k1n : KB := opk4k0y.put 1004 ⟨2001, 9223372036854775807, []⟩
def opk4k2y : KB := opk4k1y.put 1005 ⟨0, 2000, []⟩
def opk4k2n : KB := opk4k1y.put 1005 ⟨2001, 9223372036854775807, []⟩
def opk4k3y : KB := opk4k2y.put 1006 ⟨0, 2000, []⟩
def opk4k3n : KB := opk4k2y.put 1006 ⟨2001, 9223372036854775807, []⟩
def opk4k4y : KB := opk4k3y.put 1 ⟨-9223372036854775808, 0, []⟩
def opk4k4n : KB := opk4k3y.put 1 ⟨1, 9223372036854775807, []⟩
theorem opk4h5 : DT.leaf.check (okKD Try.prog opkKn opkDer [3, 4, 5, 6] opkET 100000 60 7 (opkArgs false)) opk4k4y = true := check_leaf (by kernel_rfl)
def opk4k6y : KB := opk4k4n.put 1 ⟨1, 1048576, []⟩
def opk4k6n : KB := opk4k4n.put 1 ⟨1048577, 9223372036854775807, []⟩
def opk4k7y : KB := opk4k6y.put 2 ⟨-9223372036854775808, 0, []⟩
def opk4k7n : KB := opk4k6y.put 2 ⟨1, 9223372036854775807, []⟩
theorem opk4h8 : DT.leaf.check (okKD Try.prog opkKn opkDer [3, 4, 5, 6] opkET 100000 60 7 (opkArgs false)) opk4k7y = true := check_leaf (by kernel_rfl)
def opk4k9y : KB := opk4k7n.put 2 ⟨1, 1099511627776, []⟩
def opk4k9n : KB := opk4k7n.put 2 ⟨1099511627777, 9223372036854775807, []⟩
def opk4k10y : KB := opk4k9y.put 1003 ⟨0, 0, []⟩
def opk4k10n : KB := opk4k9y.put 1003 ⟨1, 2000, []⟩
theorem opk4h11 : DT.leaf.check (okKD Try.prog opkKn opkDer [3, 4, 5, 6] opkET 100000 60 7 (opkArgs false)) opk4k10y = true := check_leaf (by kernel_rfl)
def opk4k12y : KB := opk4k10n.put 1003 ⟨1, 16, []⟩
def opk4k12n : KB := opk4k10n.put 1003 ⟨17, 2000, []⟩
def opk4k13y : KB := opk4k12y.put 1004 ⟨0, 0, []⟩
def opk4k13n : KB := opk4k12y.put 1004 ⟨1, 2000, []⟩
theorem opk4h14 : DT.leaf.check (okKD Try.prog opkKn opkDer [3, 4, 5, 6] opkET 100000 60 7 (opkArgs false)) opk4k13y = true := check_leaf (by kernel_rfl)
def opk4k15y : KB := opk4k13n.put 1004 ⟨1, 16, []⟩
def opk4k15n : KB := opk4k13n.put 1004 ⟨17, 2000, []⟩
def opk4k16y : KB := opk4k15y.put 0 ⟨1, 1, []⟩
def opk4k16n : KB := opk4k15y.put 0 ⟨-9223372036854775808, 9223372036854775807, [1]⟩
def opk4k17y : KB := opk4k16y.put 7 ⟨-9223372036854775808, -1, []⟩
def opk4k17n : KB := opk4k16y.put 7 ⟨0, 9223372036854775807, []⟩
theorem opk4h18 : DT.leaf.check (okKD Try.prog opkKn opkDer [3, 4, 5, 6] opkET 100000 60 7 (opkArgs false)) opk4k17y = true := check_leaf (by kernel_rfl)
def opk4k19y : KB := opk4k17n.put 7 ⟨0, 3, []⟩
def opk4k19n : KB := opk4k17n.put 7 ⟨4, 9223372036854775807, []⟩
def opk4k20y : KB := opk4k19y.put 8 ⟨-9223372036854775808, 0, []⟩
def opk4k20n : KB := opk4k19y.put 8 ⟨1, 9223372036854775807, []⟩
theorem opk4h21 : DT.leaf.check (okKD Try.prog opkKn opkDer [3, 4, 5, 6] opkET 100000 60 7 (opkArgs false)) opk4k20y = true := check_leaf (by kernel_rfl)
def opk4k22y : KB := opk4k20n.put 8 ⟨1, 1048576, []⟩
def opk4k22n : KB := opk4k20n.put 8 ⟨1048577, 9223372036854775807, []⟩
def opk4k23y : KB := opk4k22y.put 1005 ⟨0, 0, []⟩
def opk4k23n : KB := opk4k22y.put 1005 ⟨1, 2000, []⟩
def opk4k24y : KB := opk4k23y.put 1006 ⟨0, 0, []⟩
def opk4k24n : KB := opk4k23y.put 1006 ⟨1, 2000, []⟩
def opk4k25y : KB := opk4k24y.put 9 ⟨0, 0, []⟩
def opk4k25n : KB := opk4k24y.put 9 ⟨-9223372036854775808, 9223372036854775807, [0]⟩
def opk4k26y : KB := opk4k25y.put 2000 ⟨0, 0, []⟩
def opk4k26n : KB := opk4k25y.put 2000 ⟨1, 7, []⟩
theorem opk4h27 : DT.leaf.check (okKD Try.prog opkKn opkDer [3, 4, 5, 6] opkET 100000 60 7 (opkArgs false)) opk4k26y = true := check_leaf (by kernel_rfl)
def opk4k28y : KB := opk4k26n.put 2000 ⟨1, 1, []⟩
def opk4k28n : KB := opk4k26n.put 2000 ⟨2, 7, []⟩
theorem opk4h29 : DT.leaf.check (okKD Try.prog opkKn opkDer [3, 4, 5, 6] opkET 100000 60 7 (opkArgs false)) opk4k28y = true := check_leaf (by kernel_rfl)
def opk4k30y : KB := opk4k28n.put 2000 ⟨2, 2, []⟩
def opk4k30n : KB := opk4k28n.put 2000 ⟨3, 7, []⟩
theorem opk4h31 : DT.leaf.check (okKD Try.prog opkKn opkDer [3, 4, 5, 6] opkET 100000 60 7 (opkArgs false)) opk4k30y = true := check_leaf (by kernel_rfl)
def opk4k32y : KB := opk4k30n.put 2000 ⟨3, 3, []⟩
def opk4k32n : KB := opk4k30n.put 2000 ⟨4, 7, []⟩
theorem opk4h33 : DT.leaf.check (okKD Try.prog opkKn opkDer [3, 4, 5, 6] opkET 100000 60 7 (opkArgs false)) opk4k32y = true := check_leaf (by kernel_rfl)
def opk4k34y : KB := opk4k32n.put 2000 ⟨4, 4, []⟩
def opk4k34n : KB := opk4k32n.put 2000 ⟨5, 7, []⟩
theorem opk4h35 : DT.leaf.check (okKD Try.prog opkKn opkDer [3, 4, 5, 6] opkET 100000 60 7 (opkArgs false)) opk4k34y = true := check_leaf (by kernel_rfl)
def opk4k36y : KB := opk4k34n.put 2000 ⟨5, 5, []⟩
def opk4k36n : KB := opk4k34n.put 2000 ⟨6, 7, []⟩
theorem opk4h37 : DT.leaf.check (okKD Try.prog opkKn opkDer [3, 4, 5, 6] opkET 100000 60 7 (opkArgs false)) opk4k36y = true := check_leaf (by kernel_rfl)
def opk4k38y : KB := opk4k36n.put 2000 ⟨6, 6, []⟩
def opk4k38n : KB := opk4k36n.put 2000 ⟨7, 7, []⟩
theorem opk4h39 : DT.leaf.check (okKD Try.prog opkKn opkDer [3, 4, 5, 6] opkET 100000 60 7 (opkArgs false)) opk4k38y = true := check_leaf (by kernel_rfl)
theorem opk4h40 : DT.leaf.check (okKD Try.prog opkKn opkDer [3, 4, 5, 6] opkET 100000 60 7 (opkArgs false)) opk4k38n = true := check_leaf (by kernel_rfl)
def opk4t38 : DT := .same 2000 (6) .leaf .leaf
theorem opk4h38 : opk4t38.check (okKD Try.prog opkKn opkDer [3, 4, 5, 6] opkET 100000 60 7 (opkArgs false)) opk4k36n = true := check_same (Ky := opk4k38y) (Kn := opk4k38n) (i := ⟨6, 7, []⟩) (by kernel_rfl) (by kernel_rfl) (by kernel_rfl) (.inr opk4h39) (.inr opk4h40)
def opk4t36 : DT := .same 2000 (5) .leaf opk4t38
theorem opk4h36 : opk4t36.check (okKD Try.prog opkKn opkDer [3, 4, 5, 6] opkET 100000 60 7 (opkArgs false)) opk4k34n = true := check_same (Ky := opk4k36y) (Kn := opk4k36n) (i := ⟨5, 7, []⟩) (by kernel_rfl) (by kernel_rfl) (by kernel_rfl) (.inr opk4h37) (.inr opk4h38)
def opk4t34 : DT := .same 2000 (4) .leaf opk4t36
theorem opk4h34 : opk4t34.check (okKD Try.prog opkKn opkDer [3, 4, 5, 6] opkET 100000 60 7 (opkArgs false)) opk4k32n = true := check_same (Ky := opk4k34y) (Kn := opk4k34n) (i := ⟨4, 7, []⟩) (by kernel_rfl) (by kernel_rfl) (by kernel_rfl) (.inr opk4h35) (.inr opk4h36)
def opk4t32 : DT := .same 2000 (3) .leaf opk4t34
theorem opk4h32 : opk4t32.check (okKD Try.prog opkKn opkDer [3, 4, 5, 6] opkET 100000 60 7 (opkArgs false)) opk4k30n = true := check_same (Ky := opk4k32y) (Kn := opk4k32n) (i := ⟨3, 7, []⟩) (by kernel_rfl) (by kernel_rfl) (by kernel_rfl) (.inr opk4h33) (.inr opk4h34)
def opk4t30 : DT := .same 2000 (2) .leaf opk4t32
theorem opk4h30 : opk4t30.check (okKD Try.prog opkKn opkDer [3, 4, 5, 6] opkET 100000 60 7 (opkArgs false)) opk4k28n = true := check_same (Ky := opk4k30y) (Kn := opk4k30n) (i := ⟨2, 7, []⟩) (by kernel_rfl) (by kernel_rfl) (by kernel_rfl) (.inr opk4h31) (.inr opk4h32)
def opk4t28 : DT := .same 2000 (1) .leaf opk4t30
theorem opk4h28 : opk4t28.check (okKD Try.prog opkKn opkDer [3, 4, 5, 6] opkET 100000 60 7 (opkArgs false)) opk4k26n = true := check_same (Ky := opk4k28y) (Kn := opk4k28n) (i := ⟨1, 7, []⟩) (by kernel_rfl) (by kernel_rfl) (by kernel_rfl) (.inr opk4h29) (.inr opk4h30)
def opk4t26 : DT := .same 2000 (0) .leaf opk4t28
theorem opk4h26 : opk4t26.check (okKD Try.prog opkKn opkDer [3, 4, 5, 6] opkET 100000 60 7 (opkArgs false)) opk4k25y = true := check_same (Ky := opk4k26y) (Kn := opk4k26n) (i := ⟨0, 7, []⟩) (by kernel_rfl) (by kernel_rfl) (by kernel_rfl) (.inr opk4h27) (.inr opk4h28)
theorem opk4h41 : DT.leaf.check (okKD Try.prog opkKn opkDer [3, 4, 5, 6] opkET 100000 60 7 (opkArgs false)) opk4k25n = true := check_leaf (by kernel_rfl)
def opk4t25 : DT := .same 9 (0) opk4t26 .leaf
theorem opk4h25 : opk4t25.check (okKD Try.prog opkKn opkDer [3, 4, 5, 6] opkET 100000 60 7 (opkArgs false)) opk4k24y = true := check_same (Ky := opk4k25y) (Kn := opk4k25n) (i := ⟨-9223372036854775808, 9223372036854775807, []⟩) (by kernel_rfl) (by kernel_rfl) (by kernel_rfl) (.inr opk4h26) (.inr opk4h41)
theorem opk4h42 : DT.leaf.check (okKD Try.prog opkKn opkDer [3, 4, 5, 6] opkET 100000 60 7 (opkArgs false)) opk4k24n = true := check_leaf (by kernel_rfl)
def opk4t24 : DT := .same 1006 (0) opk4t25 .leaf
theorem opk4h24 : opk4t24.check (okKD Try.prog opkKn opkDer [3, 4, 5, 6] opkET 100000 60 7 (opkArgs false)) opk4k23y = true := check_same (Ky := opk4k24y) (Kn := opk4k24n) (i := ⟨0, 2000, []⟩) (by kernel_rfl) (by kernel_rfl) (by kernel_rfl) (.inr opk4h25) (.inr opk4h42)
theorem opk4h43 : DT.leaf.check (okKD Try.prog opkKn opkDer [3, 4, 5, 6] opkET 100000 60 7 (opkArgs false)) opk4k23n = true := check_leaf (by kernel_rfl)
def opk4t23 : DT := .same 1005 (0) opk4t24 .leaf
theorem opk4h23 : opk4t23.check (okKD Try.prog opkKn opkDer [3, 4, 5, 6] opkET 100000 60 7 (opkArgs false)) opk4k22y = true := check_same (Ky := opk4k23y) (Kn := opk4k23n) (i := ⟨0, 2000, []⟩) (by kernel_rfl) (by kernel_rfl) (by kernel_rfl) (.inr opk4h24) (.inr opk4h43)
theorem opk4h44 : DT.leaf.check (okKD Try.prog opkKn opkDer [3, 4, 5, 6] opkET 100000 60 7 (opkArgs false)) opk4k22n = true := check_leaf (by kernel_rfl)
def opk4t22 : DT := .less 8 (1048577) opk4t23 .leaf
theorem opk4h22 : opk4t22.check (okKD Try.prog opkKn opkDer [3, 4, 5, 6] opkET 100000 60 7 (opkArgs false)) opk4k20n = true := check_less (Ky := opk4k22y) (Kn := opk4k22n) (i := ⟨1, 9223372036854775807, []⟩) (by kernel_rfl) (by kernel_rfl) (by kernel_rfl) (.inr opk4h23) (.inr opk4h44)
def opk4t20 : DT := .less 8 (1) .leaf opk4t22
theorem opk4h20 : opk4t20.check (okKD Try.prog opkKn opkDer [3, 4, 5, 6] opkET 100000 60 7 (opkArgs false)) opk4k19y = true := check_less (Ky := opk4k20y) (Kn := opk4k20n) (i := ⟨-9223372036854775808, 9223372036854775807, []⟩) (by kernel_rfl) (by kernel_rfl) (by kernel_rfl) (.inr opk4h21) (.inr opk4h22)
theorem opk4h45 : DT.leaf.check (okKD Try.prog opkKn opkDer [3, 4, 5, 6] opkET 100000 60 7 (opkArgs false)) opk4k19n = true := check_leaf (by kernel_rfl)
def opk4t19 : DT := .less 7 (4) opk4t20 .leaf
theorem opk4h19 : opk4t19.check (okKD Try.prog opkKn opkDer [3, 4, 5, 6] opkET 100000 60 7 (opkArgs false)) opk4k17n = true := check_less (Ky := opk4k19y) (Kn := opk4k19n) (i := ⟨0, 9223372036854775807, []⟩) (by kernel_rfl) (by kernel_rfl) (by kernel_rfl) (.inr opk4h20) (.inr opk4h45)
def opk4t17 : DT := .less 7 (0) .leaf opk4t19
theorem opk4h17 : opk4t17.check (okKD Try.prog opkKn opkDer [3, 4, 5, 6] opkET 100000 60 7 (opkArgs false)) opk4k16y = true := check_less (Ky := opk4k17y) (Kn := opk4k17n) (i := ⟨-9223372036854775808, 9223372036854775807, []⟩) (by kernel_rfl) (by kernel_rfl) (by kernel_rfl) (.inr opk4h18) (.inr opk4h19)
def opk4k46y : KB := opk4k16n.put 0 ⟨6, 6, [1]⟩
def opk4k46n : KB := opk4k16n.put 0 ⟨-9223372036854775808, 9223372036854775807, [6, 1]⟩
def opk4k47y : KB := opk4k46y.put 7 ⟨-9223372036854775808, -1, []⟩
def opk4k47n : KB := opk4k46y.put 7 ⟨0, 9223372036854775807, []⟩
theorem opk4h48 : DT.leaf.check (okKD Try.prog opkKn opkDer [3, 4, 5, 6] opkET 100000 60 7 (opkArgs false)) opk4k47y = true := check_leaf (by kernel_rfl)
def opk4k49y : KB := opk4k47n.put 7 ⟨0, 3, []⟩
def opk4k49n : KB := opk4k47n.put 7 ⟨4, 9223372036854775807, []⟩
def opk4k50y : KB := opk4k49y.put 8 ⟨-9223372036854775808, 0, []⟩
def opk4k50n : KB := opk4k49y.put 8 ⟨1, 9223372036854775807, []⟩
theorem opk4h51 : DT.leaf.check (okKD Try.prog opkKn opkDer [3, 4, 5, 6] opkET 100000 60 7 (opkArgs false)) opk4k50y = true := check_leaf (by kernel_rfl)
def opk4k52y : KB := opk4k50n.put 8 ⟨1, 1048576, []⟩
def opk4k52n : KB := opk4k50n.put 8 ⟨1048577, 9223372036854775807, []⟩
def opk4k53y : KB := opk4k52y.put 1005 ⟨0, 0, []⟩
def opk4k53n : KB := opk4k52y.put 1005 ⟨1, 2000, []⟩
def opk4k54y : KB := opk4k53y.put 1006 ⟨0, 0, []⟩
def opk4k54n : KB := opk4k53y.put 1006 ⟨1, 2000, []⟩
def opk4k55y : KB := opk4k54y.put 9 ⟨0, 0, []⟩
def opk4k55n : KB := opk4k54y.put 9 ⟨-9223372036854775808, 9223372036854775807, [0]⟩
def opk4k56y : KB := opk4k55y.put 2000 ⟨0, 0, []⟩
def opk4k56n : KB := opk4k55y.put 2000 ⟨1, 7, []⟩
theorem opk4h57 : DT.leaf.check (okKD Try.prog opkKn opkDer [3, 4, 5, 6] opkET 100000 60 7 (opkArgs false)) opk4k56y = true := check_leaf (by kernel_rfl)
def opk4k58y : KB := opk4k56n.put 2000 ⟨1, 1, []⟩
def opk4k58n : KB := opk4k56n.put 2000 ⟨2, 7, []⟩
theorem opk4h59 : DT.leaf.check (okKD Try.prog opkKn opkDer [3, 4, 5, 6] opkET 100000 60 7 (opkArgs false)) opk4k58y = true := check_leaf (by kernel_rfl)
def opk4k60y : KB := opk4k58n.put 2000 ⟨2, 2, []⟩
def opk4k60n : KB := opk4k58n.put 2000 ⟨3, 7, []⟩
theorem opk4h61 : DT.leaf.check (okKD Try.prog opkKn opkDer [3, 4, 5, 6] opkET 100000 60 7 (opkArgs false)) opk4k60y = true := check_leaf (by kernel_rfl)
def opk4k62y : KB := opk4k60n.put 2000 ⟨3, 3, []⟩
def opk4k62n : KB := opk4k60n.put 2000 ⟨4, 7, []⟩
theorem opk4h63 : DT.leaf.check (okKD Try.prog opkKn opkDer [3, 4, 5, 6] opkET 100000 60 7 (opkArgs false)) opk4k62y = true := check_leaf (by kernel_rfl)
def opk4k64y : KB := opk4k62n.put 2000 ⟨4, 4, []⟩
def opk4k64n : KB := opk4k62n.put 2000 ⟨5, 7, []⟩
theorem opk4h65 : DT.leaf.check (okKD Try.prog opkKn opkDer [3, 4, 5, 6] opkET 100000 60 7 (opkArgs false)) opk4k64y = true := check_leaf (by kernel_rfl)
def opk4k66y : KB := opk4k64n.put 2000 ⟨5, 5, []⟩
def opk4k66n : KB := opk4k64n.put 2000 ⟨6, 7, []⟩
theorem opk4h67 : DT.leaf.check (okKD Try.prog opkKn opkDer [3, 4, 5, 6] opkET 100000 60 7 (opkArgs false)) opk4k66y = true := check_leaf (by kernel_rfl)
def opk4k68y : KB := opk4k66n.put 2000 ⟨6, 6, []⟩
def opk4k68n : KB := opk4k66n.put 2000 ⟨7, 7, []⟩
theorem opk4h69 : DT.leaf.check (okKD Try.prog opkKn opkDer [3, 4, 5, 6] opkET 100000 60 7 (opkArgs false)) opk4k68y = true := check_leaf (by kernel_rfl)
theorem opk4h70 : DT.leaf.check (okKD Try.prog opkKn opkDer [3, 4, 5, 6] opkET 100000 60 7 (opkArgs false)) opk4k68n = true := check_leaf (by kernel_rfl)
def opk4t68 : DT := .same 2000 (6) .leaf .leaf
theorem opk4h68 : opk4t68.check (okKD Try.prog opkKn opkDer [3, 4, 5, 6] opkET 100000 60 7 (opkArgs false)) opk4k66n = true := check_same (Ky := opk4k68y) (Kn := opk4k68n) (i := ⟨6, 7, []⟩) (by kernel_rfl) (by kernel_rfl) (by kernel_rfl) (.inr opk4h69) (.inr opk4h70)
def opk4t66 : DT := .same 2000 (5) .leaf opk4t68
theorem opk4h66 : opk4t66.check (okKD Try.prog opkKn opkDer [3, 4, 5, 6] opkET 100000 60 7 (opkArgs false)) opk4k64n = true := check_same (Ky := opk4k66y) (Kn := opk4k66n) (i := ⟨5, 7, []⟩) (by kernel_rfl) (by kernel_rfl) (by kernel_rfl) (.inr opk4h67) (.inr opk4h68)
def opk4t64 : DT := .same 2000 (4) .leaf opk4t66
theorem opk4h64 : opk4t64.check (okKD Try.prog opkKn opkDer [3, 4, 5, 6] opkET 100000 60 7 (opkArgs false)) opk4k62n = true := check_same (Ky := opk4k64y) (Kn := opk4k64n) (i := ⟨4, 7, []⟩) (by kernel_rfl) (by kernel_rfl) (by kernel_rfl) (.inr opk4h65) (.inr opk4h66)
def opk4t62 : DT := .same 2000 (3) .leaf opk4t64
theorem opk4h62 : opk4t62.check (okKD Try.prog opkKn opkDer [3, 4, 5, 6] opkET 100000 60 7 (opkArgs false)) opk4k60n = true := check_same (Ky := opk4k62y) (Kn := opk4k62n) (i := ⟨3, 7, []⟩) (by kernel_rfl) (by kernel_rfl) (by kernel_rfl) (.inr opk4h63) (.inr opk4h64)
def opk4t60 : DT := .same 2000 (2) .leaf opk4t62
theorem opk4h60 : opk4t60.check (okKD Try.prog opkKn opkDer [3, 4, 5, 6] opkET 100000 60 7 (opkArgs false)) opk4k58n = true := check_same (Ky := opk4k60y) (Kn := opk4k60n) (i := ⟨2, 7, []⟩) (by kernel_rfl) (by kernel_rfl) (by kernel_rfl) (.inr opk4h61) (.inr opk4h62)
def opk4t58 : DT := .same 2000 (1) .leaf opk4t60
theorem opk4h58 : opk4t58.check (okKD Try.prog opkKn opkDer [3, 4, 5, 6] opkET 100000 60 7 (opkArgs false)) opk4k56n = true := check_same (Ky := opk4k58y) (Kn := opk4k58n) (i := ⟨1, 7, []⟩) (by kernel_rfl) (by kernel_rfl) (by kernel_rfl) (.inr opk4h59) (.inr opk4h60)
def opk4t56 : DT := .same 2000 (0) .leaf opk4t58
theorem opk4h56 : opk4t56.check (okKD Try.prog opkKn opkDer [3, 4, 5, 6] opkET 100000 60 7 (opkArgs false)) opk4k55y = true := check_same (Ky := opk4k56y) (Kn := opk4k56n) (i := ⟨0, 7, []⟩) (by kernel_rfl) (by kernel_rfl) (by kernel_rfl) (.inr opk4h57) (.inr opk4h58)
theorem opk4h71 : DT.leaf.check (okKD Try.prog opkKn opkDer [3, 4, 5, 6] opkET 100000 60 7 (opkArgs false)) opk4k55n = true := check_leaf (by kernel_rfl)
def opk4t55 : DT := .same 9 (0) opk4t56 .leaf
theorem opk4h55 : opk4t55.check (okKD Try.prog opkKn opkDer [3, 4, 5, 6] opkET 100000 60 7 (opkArgs false)) opk4k54y = true := check_same (Ky := opk4k55y) (Kn := opk4k55n) (i := ⟨-9223372036854775808, 9223372036854775807, []⟩) (by kernel_rfl) (by kernel_rfl) (by kernel_rfl) (.inr opk4h56) (.inr opk4h71)
theorem opk4h72 : DT.leaf.check (okKD Try.prog opkKn opkDer [3, 4, 5, 6] opkET 100000 60 7 (opkArgs false)) opk4k54n = true := check_leaf (by kernel_rfl)
def opk4t54 : DT := .same 1006 (0) opk4t55 .leaf
theorem opk4h54 : opk4t54.check (okKD Try.prog opkKn opkDer [3, 4, 5, 6] opkET 100000 60 7 (opkArgs false)) opk4k53y = true := check_same (Ky := opk4k54y) (Kn := opk4k54n) (i := ⟨0, 2000, []⟩) (by kernel_rfl) (by kernel_rfl) (by kernel_rfl) (.inr opk4h55) (.inr opk4h72)
theorem opk4h73 : DT.leaf.check (okKD Try.prog opkKn opkDer [3, 4, 5, 6] opkET 100000 60 7 (opkArgs false)) opk4k53n = true := check_leaf (by kernel_rfl)
def opk4t53 : DT := .same 1005 (0) opk4t54 .leaf
theorem opk4h53 : opk4t53.check (okKD Try.prog opkKn opkDer [3, 4, 5, 6] opkET 100000 60 7 (opkArgs false)) opk4k52y = true := check_same (Ky := opk4k53y) (Kn := opk4k53n) (i := ⟨0, 2000, []⟩) (by kernel_rfl) (by kernel_rfl) (by kernel_rfl) (.inr opk4h54) (.inr opk4h73)
theorem opk4h74 : DT.leaf.check (okKD Try.prog opkKn opkDer [3, 4, 5, 6] opkET 100000 60 7 (opkArgs false)) opk4k52n = true := check_leaf (by kernel_rfl)
def opk4t52 : DT := .less 8 (1048577) opk4t53 .leaf
theorem opk4h52 : opk4t52.check (okKD Try.prog opkKn opkDer [3, 4, 5, 6] opkET 100000 60 7 (opkArgs false)) opk4k50n = true := check_less (Ky := opk4k52y) (Kn := opk4k52n) (i := ⟨1, 9223372036854775807, []⟩) (by kernel_rfl) (by kernel_rfl) (by kernel_rfl) (.inr opk4h53) (.inr opk4h74)
def opk4t50 : DT := .less 8 (1) .leaf opk4t52
theorem opk4h50 : opk4t50.check (okKD Try.prog opkKn opkDer [3, 4, 5, 6] opkET 100000 60 7 (opkArgs false)) opk4k49y = true := check_less (Ky := opk4k50y) (Kn := opk4k50n) (i := ⟨-9223372036854775808, 9223372036854775807, []⟩) (by kernel_rfl) (by kernel_rfl) (by kernel_rfl) (.inr opk4h51) (.inr opk4h52)
theorem opk4h75 : DT.leaf.check (okKD Try.prog opkKn opkDer [3, 4, 5, 6] opkET 100000 60 7 (opkArgs false)) opk4k49n = true := check_leaf (by kernel_rfl)
def opk4t49 : DT := .less 7 (4) opk4t50 .leaf
theorem opk4h49 : opk4t49.check (okKD Try.prog opkKn opkDer [3, 4, 5, 6] opkET 100000 60 7 (opkArgs false)) opk4k47n = true := check_less (Ky := opk4k49y) (Kn := opk4k49n) (i := ⟨0, 9223372036854775807, []⟩) (by kernel_rfl) (by kernel_rfl) (by kernel_rfl) (.inr opk4h50) (.inr opk4h75)
def opk4t47 : DT := .less 7 (0) .leaf opk4t49
theorem opk4h47 : opk4t47.check (okKD Try.prog opkKn opkDer [3, 4, 5, 6] opkET 100000 60 7 (opkArgs false)) opk4k46y = true := check_less (Ky := opk4k47y) (Kn := opk4k47n) (i := ⟨-9223372036854775808, 9223372036854775807, []⟩) (by kernel_rfl) (by kernel_rfl) (by kernel_rfl) (.inr opk4h48) (.inr opk4h49)
def opk4k76y : KB := opk4k46n.put 0 ⟨2, 2, [6, 1]⟩
def opk4k76n : KB := opk4k46n.put 0 ⟨-9223372036854775808, 9223372036854775807, [2, 6, 1]⟩
def opk4k77y : KB := opk4k76y.put 7 ⟨-9223372036854775808, -1, []⟩
def opk4k77n : KB := opk4k76y.put 7 ⟨0, 9223372036854775807, []⟩
theorem opk4h78 : DT.leaf.check (okKD Try.prog opkKn opkDer [3, 4, 5, 6] opkET 100000 60 7 (opkArgs false)) opk4k77y = true := check_leaf (by kernel_rfl)
def opk4k79y : KB := opk4k77n.put 7 ⟨0, 3, []⟩
def opk4k79n : KB := opk4k77n.put 7 ⟨4, 9223372036854775807, []⟩
def opk4k80y : KB := opk4k79y.put 8 ⟨-9223372036854775808, 0, []⟩
def opk4k80n : KB := opk4k79y.put 8 ⟨1, 9223372036854775807, []⟩
theorem opk4h81 : DT.leaf.check (okKD Try.prog opkKn opkDer [3, 4, 5, 6] opkET 100000 60 7 (opkArgs false)) opk4k80y = true := check_leaf (by kernel_rfl)
def opk4k82y : KB := opk4k80n.put 8 ⟨1, 1048576, []⟩
def opk4k82n : KB := opk4k80n.put 8 ⟨1048577, 9223372036854775807, []⟩
def opk4k83y : KB := opk4k82y.put 1005 ⟨0, 0, []⟩
def opk4k83n : KB := opk4k82y.put 1005 ⟨1, 2000, []⟩
theorem opk4h84 : DT.leaf.check (okKD Try.prog opkKn opkDer [3, 4, 5, 6] opkET 100000 60 7 (opkArgs false)) opk4k83y = true := check_leaf (by kernel_rfl)
def opk4k85y : KB := opk4k83n.put 1005 ⟨1, 16, []⟩
def opk4k85n : KB := opk4k83n.put 1005 ⟨17, 2000, []⟩
def opk4k86y : KB := opk4k85y.put 1006 ⟨0, 0, []⟩
def opk4k86n : KB := opk4k85y.put 1006 ⟨1, 2000, []⟩
theorem opk4h87 : DT.leaf.check (okKD Try.prog opkKn opkDer [3, 4, 5, 6] opkET 100000 60 7 (opkArgs false)) opk4k86y = true := check_leaf (by kernel_rfl)
def opk4k88y : KB := opk4k86n.put 1006 ⟨1, 16, []⟩
def opk4k88n : KB := opk4k86n.put 1006 ⟨17, 2000, []⟩
def opk4k89y : KB := opk4k88y.put 9 ⟨0, 0, []⟩
def opk4k89n : KB := opk4k88y.put 9 ⟨-9223372036854775808, 9223372036854775807, [0]⟩
def opk4k90y : KB := opk4k89y.put 2000 ⟨0, 0, []⟩
def opk4k90n : KB := opk4k89y.put 2000 ⟨1, 7, []⟩
theorem opk4h91 : DT.leaf.check (okKD Try.prog opkKn opkDer [3, 4, 5, 6] opkET 100000 60 7 (opkArgs false)) opk4k90y = true := check_leaf (by kernel_rfl)
def opk4k92y : KB := opk4k90n.put 2000 ⟨1, 1, []⟩
def opk4k92n : KB := opk4k90n.put 2000 ⟨2, 7, []⟩
theorem opk4h93 : DT.leaf.check (okKD Try.prog opkKn opkDer [3, 4, 5, 6] opkET 100000 60 7 (opkArgs false)) opk4k92y = true := check_leaf (by kernel_rfl)
def opk4k94y : KB := opk4k92n.put 2000 ⟨2, 2, []⟩
def opk4k94n : KB := opk4k92n.put 2000 ⟨3, 7, []⟩
theorem opk4h95 : DT.leaf.check (okKD Try.prog opkKn opkDer [3, 4, 5, 6] opkET 100000 60 7 (opkArgs false)) opk4k94y = true := check_leaf (by kernel_rfl)
def opk4k96y : KB := opk4k94n.put 2000 ⟨3, 3, []⟩
def opk4k96n : KB := opk4k94n.put 2000 ⟨4, 7, []⟩
theorem opk4h97 : DT.leaf.check (okKD Try.prog opkKn opkDer [3, 4, 5, 6] opkET 100000 60 7 (opkArgs false)) opk4k96y = true := check_leaf (by kernel_rfl)
def opk4k98y : KB := opk4k96n.put 2000 ⟨4, 4, []⟩
def opk4k98n : KB := opk4k96n.put 2000 ⟨5, 7, []⟩
theorem opk4h99 : DT.leaf.check (okKD Try.prog opkKn opkDer [3, 4, 5, 6] opkET 100000 60 7 (opkArgs false)) opk4k98y = true := check_leaf (by kernel_rfl)
def opk4k100y : KB := opk4k98n.put 2000 ⟨5, 5, []⟩
def opk4k100n : KB := opk4k98n.put 2000 ⟨6, 7, []⟩
theorem opk4h101 : DT.leaf.check (okKD Try.prog opkKn opkDer [3, 4, 5, 6] opkET 100000 60 7 (opkArgs false)) opk4k100y = true := check_leaf (by kernel_rfl)
def opk4k102y : KB := opk4k100n.put 2000 ⟨6, 6, []⟩
def opk4k102n : KB := opk4k100n.put 2000 ⟨7, 7, []⟩
theorem opk4h103 : DT.leaf.check (okKD Try.prog opkKn opkDer [3, 4, 5, 6] opkET 100000 60 7 (opkArgs false)) opk4k102y = true := check_leaf (by kernel_rfl)
theorem opk4h104 : DT.leaf.check (okKD Try.prog opkKn opkDer [3, 4, 5, 6] opkET 100000 60 7 (opkArgs false)) opk4k102n = true := check_leaf (by kernel_rfl)
def opk4t102 : DT := .same 2000 (6) .leaf .leaf
theorem opk4h102 : opk4t102.check (okKD Try.prog opkKn opkDer [3, 4, 5, 6] opkET 100000 60 7 (opkArgs false)) opk4k100n = true := check_same (Ky := opk4k102y) (Kn := opk4k102n) (i := ⟨6, 7, []⟩) (by kernel_rfl) (by kernel_rfl) (by kernel_rfl) (.inr opk4h103) (.inr opk4h104)
def opk4t100 : DT := .same 2000 (5) .leaf opk4t102
theorem opk4h100 : opk4t100.check (okKD Try.prog opkKn opkDer [3, 4, 5, 6] opkET 100000 60 7 (opkArgs false)) opk4k98n = true := check_same (Ky := opk4k100y) (Kn := opk4k100n) (i := ⟨5, 7, []⟩) (by kernel_rfl) (by kernel_rfl) (by kernel_rfl) (.inr opk4h101) (.inr opk4h102)
def opk4t98 : DT := .same 2000 (4) .leaf opk4t100
theorem opk4h98 : opk4t98.check (okKD Try.prog opkKn opkDer [3, 4, 5, 6] opkET 100000 60 7 (opkArgs false)) opk4k96n = true := check_same (Ky := opk4k98y) (Kn := opk4k98n) (i := ⟨4, 7, []⟩) (by kernel_rfl) (by kernel_rfl) (by kernel_rfl) (.inr opk4h99) (.inr opk4h100)
def opk4t96 : DT := .same 2000 (3) .leaf opk4t98
theorem opk4h96 : opk4t96.check (okKD Try.prog opkKn opkDer [3, 4, 5, 6] opkET 100000 60 7 (opkArgs false)) opk4k94n = true := check_same (Ky := opk4k96y) (Kn := opk4k96n) (i := ⟨3, 7, []⟩) (by kernel_rfl) (by kernel_rfl) (by kernel_rfl) (.inr opk4h97) (.inr opk4h98)
def opk4t94 : DT := .same 2000 (2) .leaf opk4t96
theorem opk4h94 : opk4t94.check (okKD Try.prog opkKn opkDer [3, 4, 5, 6] opkET 100000 60 7 (opkArgs false)) opk4k92n = true := check_same (Ky := opk4k94y) (Kn := opk4k94n) (i := ⟨2, 7, []⟩) (by kernel_rfl) (by kernel_rfl) (by kernel_rfl) (.inr opk4h95) (.inr opk4h96)
def opk4t92 : DT := .same 2000 (1) .leaf opk4t94
theorem opk4h92 : opk4t92.check (okKD Try.prog opkKn opkDer [3, 4, 5, 6] opkET 100000 60 7 (opkArgs false)) opk4k90n = true := check_same (Ky := opk4k92y) (Kn := opk4k92n) (i := ⟨1, 7, []⟩) (by kernel_rfl) (by kernel_rfl) (by kernel_rfl) (.inr opk4h93) (.inr opk4h94)
def opk4t90 : DT := .same 2000 (0) .leaf opk4t92
theorem opk4h90 : opk4t90.check (okKD Try.prog opkKn opkDer [3, 4, 5, 6] opkET 100000 60 7 (opkArgs false)) opk4k89y = true := check_same (Ky := opk4k90y) (Kn := opk4k90n) (i := ⟨0, 7, []⟩) (by kernel_rfl) (by kernel_rfl) (by kernel_rfl) (.inr opk4h91) (.inr opk4h92)
theorem opk4h105 : DT.leaf.check (okKD Try.prog opkKn opkDer [3, 4, 5, 6] opkET 100000 60 7 (opkArgs false)) opk4k89n = true := check_leaf (by kernel_rfl)
def opk4t89 : DT := .same 9 (0) opk4t90 .leaf
theorem opk4h89 : opk4t89.check (okKD Try.prog opkKn opkDer [3, 4, 5, 6] opkET 100000 60 7 (opkArgs false)) opk4k88y = true := check_same (Ky := opk4k89y) (Kn := opk4k89n) (i := ⟨-9223372036854775808, 9223372036854775807, []⟩) (by kernel_rfl) (by kernel_rfl) (by kernel_rfl) (.inr opk4h90) (.inr opk4h105)
theorem opk4h106 : DT.leaf.check (okKD Try.prog opkKn opkDer [3, 4, 5, 6] opkET 100000 60 7 (opkArgs false)) opk4k88n = true := check_leaf (by kernel_rfl)
def opk4t88 : DT := .less 1006 (17) opk4t89 .leaf
theorem opk4h88 : opk4t88.check (okKD Try.prog opkKn opkDer [3, 4, 5, 6] opkET 100000 60 7 (opkArgs false)) opk4k86n = true := check_less (Ky := opk4k88y) (Kn := opk4k88n) (i := ⟨1, 2000, []⟩) (by kernel_rfl) (by kernel_rfl) (by kernel_rfl) (.inr opk4h89) (.inr opk4h106)
def opk4t86 : DT := .less 1006 (1) .leaf opk4t88
theorem opk4h86 : opk4t86.check (okKD Try.prog opkKn opkDer [3, 4, 5, 6] opkET 100000 60 7 (opkArgs false)) opk4k85y = true := check_less (Ky := opk4k86y) (Kn := opk4k86n) (i := ⟨0, 2000, []⟩) (by kernel_rfl) (by kernel_rfl) (by kernel_rfl) (.inr opk4h87) (.inr opk4h88)
theorem opk4h107 : DT.leaf.check (okKD Try.prog opkKn opkDer [3, 4, 5, 6] opkET 100000 60 7 (opkArgs false)) opk4k85n = true := check_leaf (by kernel_rfl)
def opk4t85 : DT := .less 1005 (17) opk4t86 .leaf
theorem opk4h85 : opk4t85.check (okKD Try.prog opkKn opkDer [3, 4, 5, 6] opkET 100000 60 7 (opkArgs false)) opk4k83n = true := check_less (Ky := opk4k85y) (Kn := opk4k85n) (i := ⟨1, 2000, []⟩) (by kernel_rfl) (by kernel_rfl) (by kernel_rfl) (.inr opk4h86) (.inr opk4h107)
def opk4t83 : DT := .less 1005 (1) .leaf opk4t85
theorem opk4h83 : opk4t83.check (okKD Try.prog opkKn opkDer [3, 4, 5, 6] opkET 100000 60 7 (opkArgs false)) opk4k82y = true := check_less (Ky := opk4k83y) (Kn := opk4k83n) (i := ⟨0, 2000, []⟩) (by kernel_rfl) (by kernel_rfl) (by kernel_rfl) (.inr opk4h84) (.inr opk4h85)
theorem opk4h108 : DT.leaf.check (okKD Try.prog opkKn opkDer [3, 4, 5, 6] opkET 100000 60 7 (opkArgs false)) opk4k82n = true := check_leaf (by kernel_rfl)
def opk4t82 : DT := .less 8 (1048577) opk4t83 .leaf
theorem opk4h82 : opk4t82.check (okKD Try.prog opkKn opkDer [3, 4, 5, 6] opkET 100000 60 7 (opkArgs false)) opk4k80n = true := check_less (Ky := opk4k82y) (Kn := opk4k82n) (i := ⟨1, 9223372036854775807, []⟩) (by kernel_rfl) (by kernel_rfl) (by kernel_rfl) (.inr opk4h83) (.inr opk4h108)
def opk4t80 : DT := .less 8 (1) .leaf opk4t82
theorem opk4h80 : opk4t80.check (okKD Try.prog opkKn opkDer [3, 4, 5, 6] opkET 100000 60 7 (opkArgs false)) opk4k79y = true := check_less (Ky := opk4k80y) (Kn := opk4k80n) (i := ⟨-9223372036854775808, 9223372036854775807, []⟩) (by kernel_rfl) (by kernel_rfl) (by kernel_rfl) (.inr opk4h81) (.inr opk4h82)
theorem opk4h109 : DT.leaf.check (okKD Try.prog opkKn opkDer [3, 4, 5, 6] opkET 100000 60 7 (opkArgs false)) opk4k79n = true := check_leaf (by kernel_rfl)
def opk4t79 : DT := .less 7 (4) opk4t80 .leaf
theorem opk4h79 : opk4t79.check (okKD Try.prog opkKn opkDer [3, 4, 5, 6] opkET 100000 60 7 (opkArgs false)) opk4k77n = true := check_less (Ky := opk4k79y) (Kn := opk4k79n) (i := ⟨0, 9223372036854775807, []⟩) (by kernel_rfl) (by kernel_rfl) (by kernel_rfl) (.inr opk4h80) (.inr opk4h109)
def opk4t77 : DT := .less 7 (0) .leaf opk4t79
theorem opk4h77 : opk4t77.check (okKD Try.prog opkKn opkDer [3, 4, 5, 6] opkET 100000 60 7 (opkArgs false)) opk4k76y = true := check_less (Ky := opk4k77y) (Kn := opk4k77n) (i := ⟨-9223372036854775808, 9223372036854775807, []⟩) (by kernel_rfl) (by kernel_rfl) (by kernel_rfl) (.inr opk4h78) (.inr opk4h79)
def opk4k110y : KB := opk4k76n.put 0 ⟨3, 3, [2, 6, 1]⟩
def opk4k110n : KB := opk4k76n.put 0 ⟨-9223372036854775808, 9223372036854775807, [3, 2, 6, 1]⟩
def opk4k111y : KB := opk4k110y.put 7 ⟨-9223372036854775808, 0, []⟩
def opk4k111n : KB := opk4k110y.put 7 ⟨1, 9223372036854775807, []⟩
theorem opk4h112 : DT.leaf.check (okKD Try.prog opkKn opkDer [3, 4, 5, 6] opkET 100000 60 7 (opkArgs false)) opk4k111y = true := check_leaf (by kernel_rfl)
def opk4k113y : KB := opk4k111n.put 7 ⟨1, 3, []⟩
def opk4k113n : KB := opk4k111n.put 7 ⟨4, 9223372036854775807, []⟩
def opk4k114y : KB := opk4k113y.put 8 ⟨-9223372036854775808, 0, []⟩
def opk4k114n : KB := opk4k113y.put 8 ⟨1, 9223372036854775807, []⟩
theorem opk4h115 : DT.leaf.check (okKD Try.prog opkKn opkDer [3, 4, 5, 6] opkET 100000 60 7 (opkArgs false)) opk4k114y = true := check_leaf (by kernel_rfl)
def opk4k116y : KB := opk4k114n.put 8 ⟨1, 1048576, []⟩
def opk4k116n : KB := opk4k114n.put 8 ⟨1048577, 9223372036854775807, []⟩
def opk4k117y : KB := opk4k116y.put 9 ⟨-9223372036854775808, 0, []⟩
def opk4k117n : KB := opk4k116y.put 9 ⟨1, 9223372036854775807, []⟩
theorem opk4h118 : DT.leaf.check (okKD Try.prog opkKn opkDer [3, 4, 5, 6] opkET 100000 60 7 (opkArgs false)) opk4k117y = true := check_leaf (by kernel_rfl)
def opk4k119y : KB := opk4k117n.put 9 ⟨1, 1024, []⟩
def opk4k119n : KB := opk4k117n.put 9 ⟨1025, 9223372036854775807, []⟩
def opk4k120y : KB := opk4k119y.put 1005 ⟨0, 0, []⟩
def opk4k120n : KB := opk4k119y.put 1005 ⟨1, 2000, []⟩
def opk4k121y : KB := opk4k120y.put 1006 ⟨0, 0, []⟩
def opk4k121n : KB := opk4k120y.put 1006 ⟨1, 2000, []⟩
def opk4k122y : KB := opk4k121y.put 2000 ⟨0, 0, []⟩
def opk4k122n : KB := opk4k121y.put 2000 ⟨1, 7, []⟩
theorem opk4h123 : DT.leaf.check (okKD Try.prog opkKn opkDer [3, 4, 5, 6] opkET 100000 60 7 (opkArgs false)) opk4k122y = true := check_leaf (by kernel_rfl)
def opk4k124y : KB := opk4k122n.put 2000 ⟨1, 1, []⟩
def opk4k124n : KB := opk4k122n.put 2000 ⟨2, 7, []⟩
theorem opk4h125 : DT.leaf.check (okKD Try.prog opkKn opkDer [3, 4, 5, 6] opkET 100000 60 7 (opkArgs false)) opk4k124y = true := check_leaf (by kernel_rfl)
def opk4k126y : KB := opk4k124n.put 2000 ⟨2, 2, []⟩
def opk4k126n : KB := opk4k124n.put 2000 ⟨3, 7, []⟩
theorem opk4h127 : DT.leaf.check (okKD Try.prog opkKn opkDer [3, 4, 5, 6] opkET 100000 60 7 (opkArgs false)) opk4k126y = true := check_leaf (by kernel_rfl)
def opk4k128y : KB := opk4k126n.put 2000 ⟨3, 3, []⟩
def opk4k128n : KB := opk4k126n.put 2000 ⟨4, 7, []⟩
theorem opk4h129 : DT.leaf.check (okKD Try.prog opkKn opkDer [3, 4, 5, 6] opkET 100000 60 7 (opkArgs false)) opk4k128y = true := check_leaf (by kernel_rfl)
def opk4k130y : KB := opk4k128n.put 2000 ⟨4, 4, []⟩
def opk4k130n : KB := opk4k128n.put 2000 ⟨5, 7, []⟩
theorem opk4h131 : DT.leaf.check (okKD Try.prog opkKn opkDer [3, 4, 5, 6] opkET 100000 60 7 (opkArgs false)) opk4k130y = true := check_leaf (by kernel_rfl)
def opk4k132y : KB := opk4k130n.put 2000 ⟨5, 5, []⟩
def opk4k132n : KB := opk4k130n.put 2000 ⟨6, 7, []⟩
theorem opk4h133 : DT.leaf.check (okKD Try.prog opkKn opkDer [3, 4, 5, 6] opkET 100000 60 7 (opkArgs false)) opk4k132y = true := check_leaf (by kernel_rfl)
def opk4k134y : KB := opk4k132n.put 2000 ⟨6, 6, []⟩
def opk4k134n : KB := opk4k132n.put 2000 ⟨7, 7, []⟩
theorem opk4h135 : DT.leaf.check (okKD Try.prog opkKn opkDer [3, 4, 5, 6] opkET 100000 60 7 (opkArgs false)) opk4k134y = true := check_leaf (by kernel_rfl)
theorem opk4h136 : DT.leaf.check (okKD Try.prog opkKn opkDer [3, 4, 5, 6] opkET 100000 60 7 (opkArgs false)) opk4k134n = true := check_leaf (by kernel_rfl)
def opk4t134 : DT := .same 2000 (6) .leaf .leaf
theorem opk4h134 : opk4t134.check (okKD Try.prog opkKn opkDer [3, 4, 5, 6] opkET 100000 60 7 (opkArgs false)) opk4k132n = true := check_same (Ky := opk4k134y) (Kn := opk4k134n) (i := ⟨6, 7, []⟩) (by kernel_rfl) (by kernel_rfl) (by kernel_rfl) (.inr opk4h135) (.inr opk4h136)
def opk4t132 : DT := .same 2000 (5) .leaf opk4t134
theorem opk4h132 : opk4t132.check (okKD Try.prog opkKn opkDer [3, 4, 5, 6] opkET 100000 60 7 (opkArgs false)) opk4k130n = true := check_same (Ky := opk4k132y) (Kn := opk4k132n) (i := ⟨5, 7, []⟩) (by kernel_rfl) (by kernel_rfl) (by kernel_rfl) (.inr opk4h133) (.inr opk4h134)
def opk4t130 : DT := .same 2000 (4) .leaf opk4t132
theorem opk4h130 : opk4t130.check (okKD Try.prog opkKn opkDer [3, 4, 5, 6] opkET 100000 60 7 (opkArgs false)) opk4k128n = true := check_same (Ky := opk4k130y) (Kn := opk4k130n) (i := ⟨4, 7, []⟩) (by kernel_rfl) (by kernel_rfl) (by kernel_rfl) (.inr opk4h131) (.inr opk4h132)
def opk4t128 : DT := .same 2000 (3) .leaf opk4t130
theorem opk4h128 : opk4t128.check (okKD Try.prog opkKn opkDer [3, 4, 5, 6] opkET 100000 60 7 (opkArgs false)) opk4k126n = true := check_same (Ky := opk4k128y) (Kn := opk4k128n) (i := ⟨3, 7, []⟩) (by kernel_rfl) (by kernel_rfl) (by kernel_rfl) (.inr opk4h129) (.inr opk4h130)
def opk4t126 : DT := .same 2000 (2) .leaf opk4t128
theorem opk4h126 : opk4t126.check (okKD Try.prog opkKn opkDer [3, 4, 5, 6] opkET 100000 60 7 (opkArgs false)) opk4k124n = true := check_same (Ky := opk4k126y) (Kn := opk4k126n) (i := ⟨2, 7, []⟩) (by kernel_rfl) (by kernel_rfl) (by kernel_rfl) (.inr opk4h127) (.inr opk4h128)
def opk4t124 : DT := .same 2000 (1) .leaf opk4t126
theorem opk4h124 : opk4t124.check (okKD Try.prog opkKn opkDer [3, 4, 5, 6] opkET 100000 60 7 (opkArgs false)) opk4k122n = true := check_same (Ky := opk4k124y) (Kn := opk4k124n) (i := ⟨1, 7, []⟩) (by kernel_rfl) (by kernel_rfl) (by kernel_rfl) (.inr opk4h125) (.inr opk4h126)
def opk4t122 : DT := .same 2000 (0) .leaf opk4t124
theorem opk4h122 : opk4t122.check (okKD Try.prog opkKn opkDer [3, 4, 5, 6] opkET 100000 60 7 (opkArgs false)) opk4k121y = true := check_same (Ky := opk4k122y) (Kn := opk4k122n) (i := ⟨0, 7, []⟩) (by kernel_rfl) (by kernel_rfl) (by kernel_rfl) (.inr opk4h123) (.inr opk4h124)
theorem opk4h137 : DT.leaf.check (okKD Try.prog opkKn opkDer [3, 4, 5, 6] opkET 100000 60 7 (opkArgs false)) opk4k121n = true := check_leaf (by kernel_rfl)
def opk4t121 : DT := .same 1006 (0) opk4t122 .leaf
theorem opk4h121 : opk4t121.check (okKD Try.prog opkKn opkDer [3, 4, 5, 6] opkET 100000 60 7 (opkArgs false)) opk4k120y = true := check_same (Ky := opk4k121y) (Kn := opk4k121n) (i := ⟨0, 2000, []⟩) (by kernel_rfl) (by kernel_rfl) (by kernel_rfl) (.inr opk4h122) (.inr opk4h137)
theorem opk4h138 : DT.leaf.check (okKD Try.prog opkKn opkDer [3, 4, 5, 6] opkET 100000 60 7 (opkArgs false)) opk4k120n = true := check_leaf (by kernel_rfl)
def opk4t120 : DT := .same 1005 (0) opk4t121 .leaf
theorem opk4h120 : opk4t120.check (okKD Try.prog opkKn opkDer [3, 4, 5, 6] opkET 100000 60 7 (opkArgs false)) opk4k119y = true := check_same (Ky := opk4k120y) (Kn := opk4k120n) (i := ⟨0, 2000, []⟩) (by kernel_rfl) (by kernel_rfl) (by kernel_rfl) (.inr opk4h121) (.inr opk4h138)
theorem opk4h139 : DT.leaf.check (okKD Try.prog opkKn opkDer [3, 4, 5, 6] opkET 100000 60 7 (opkArgs false)) opk4k119n = true := check_leaf (by kernel_rfl)
def opk4t119 : DT := .less 9 (1025) opk4t120 .leaf
theorem opk4h119 : opk4t119.check (okKD Try.prog opkKn opkDer [3, 4, 5, 6] opkET 100000 60 7 (opkArgs false)) opk4k117n = true := check_less (Ky := opk4k119y) (Kn := opk4k119n) (i := ⟨1, 9223372036854775807, []⟩) (by kernel_rfl) (by kernel_rfl) (by kernel_rfl) (.inr opk4h120) (.inr opk4h139)
def opk4t117 : DT := .less 9 (1) .leaf opk4t119
theorem opk4h117 : opk4t117.check (okKD Try.prog opkKn opkDer [3, 4, 5, 6] opkET 100000 60 7 (opkArgs false)) opk4k116y = true := check_less (Ky := opk4k117y) (Kn := opk4k117n) (i := ⟨-9223372036854775808, 9223372036854775807, []⟩) (by kernel_rfl) (by kernel_rfl) (by kernel_rfl) (.inr opk4h118) (.inr opk4h119)
theorem opk4h140 : DT.leaf.check (okKD Try.prog opkKn opkDer [3, 4, 5, 6] opkET 100000 60 7 (opkArgs false)) opk4k116n = true := check_leaf (by kernel_rfl)
def opk4t116 : DT := .less 8 (1048577) opk4t117 .leaf
theorem opk4h116 : opk4t116.check (okKD Try.prog opkKn opkDer [3, 4, 5, 6] opkET 100000 60 7 (opkArgs false)) opk4k114n = true := check_less (Ky := opk4k116y) (Kn := opk4k116n) (i := ⟨1, 9223372036854775807, []⟩) (by kernel_rfl) (by kernel_rfl) (by kernel_rfl) (.inr opk4h117) (.inr opk4h140)
def opk4t114 : DT := .less 8 (1) .leaf opk4t116
theorem opk4h114 : opk4t114.check (okKD Try.prog opkKn opkDer [3, 4, 5, 6] opkET 100000 60 7 (opkArgs false)) opk4k113y = true := check_less (Ky := opk4k114y) (Kn := opk4k114n) (i := ⟨-9223372036854775808, 9223372036854775807, []⟩) (by kernel_rfl) (by kernel_rfl) (by kernel_rfl) (.inr opk4h115) (.inr opk4h116)
theorem opk4h141 : DT.leaf.check (okKD Try.prog opkKn opkDer [3, 4, 5, 6] opkET 100000 60 7 (opkArgs false)) opk4k113n = true := check_leaf (by kernel_rfl)
def opk4t113 : DT := .less 7 (4) opk4t114 .leaf
theorem opk4h113 : opk4t113.check (okKD Try.prog opkKn opkDer [3, 4, 5, 6] opkET 100000 60 7 (opkArgs false)) opk4k111n = true := check_less (Ky := opk4k113y) (Kn := opk4k113n) (i := ⟨1, 9223372036854775807, []⟩) (by kernel_rfl) (by kernel_rfl) (by kernel_rfl) (.inr opk4h114) (.inr opk4h141)
def opk4t111 : DT := .less 7 (1) .leaf opk4t113
theorem opk4h111 : opk4t111.check (okKD Try.prog opkKn opkDer [3, 4, 5, 6] opkET 100000 60 7 (opkArgs false)) opk4k110y = true := check_less (Ky := opk4k111y) (Kn := opk4k111n) (i := ⟨-9223372036854775808, 9223372036854775807, []⟩) (by kernel_rfl) (by kernel_rfl) (by kernel_rfl) (.inr opk4h112) (.inr opk4h113)
def opk4k142y : KB := opk4k110n.put 0 ⟨4, 4, [3, 2, 6, 1]⟩
def opk4k142n : KB := opk4k110n.put 0 ⟨-9223372036854775808, 9223372036854775807, [4, 3, 2, 6, 1]⟩
theorem opk4h143 : DT.leaf.check (okKD Try.prog opkKn opkDer [3, 4, 5, 6] opkET 100000 60 7 (opkArgs false)) opk4k142y = true := check_leaf (by kernel_rfl)
def opk4k144y : KB := opk4k142n.put 0 ⟨5, 5, [4, 3, 2, 6, 1]⟩
def opk4k144n : KB := opk4k142n.put 0 ⟨-9223372036854775808, 9223372036854775807, [5, 4, 3, 2, 6, 1]⟩
def opk4k145y : KB := opk4k144y.put 1005 ⟨0, 0, []⟩
def opk4k145n : KB := opk4k144y.put 1005 ⟨1, 2000, []⟩
def opk4k146y : KB := opk4k145y.put 1006 ⟨0, 0, []⟩
def opk4k146n : KB := opk4k145y.put 1006 ⟨1, 2000, []⟩
def opk4k147y : KB := opk4k146y.put 7 ⟨0, 0, []⟩
def opk4k147n : KB := opk4k146y.put 7 ⟨-9223372036854775808, 9223372036854775807, [0]⟩
def opk4k148y : KB := opk4k147y.put 8 ⟨0, 0, []⟩
def opk4k148n : KB := opk4k147y.put 8 ⟨-9223372036854775808, 9223372036854775807, [0]⟩
def opk4k149y : KB := opk4k148y.put 9 ⟨0, 0, []⟩
def opk4k149n : KB := opk4k148y.put 9 ⟨-9223372036854775808, 9223372036854775807, [0]⟩
def opk4k150y : KB := opk4k149y.put 2000 ⟨0, 0, []⟩
def opk4k150n : KB := opk4k149y.put 2000 ⟨1, 7, []⟩
theorem opk4h151 : DT.leaf.check (okKD Try.prog opkKn opkDer [3, 4, 5, 6] opkET 100000 60 7 (opkArgs false)) opk4k150y = true := check_leaf (by kernel_rfl)
def opk4k152y : KB := opk4k150n.put 2000 ⟨1, 1, []⟩
def opk4k152n : KB := opk4k150n.put 2000 ⟨2, 7, []⟩
theorem opk4h153 : DT.leaf.check (okKD Try.prog opkKn opkDer [3, 4, 5, 6] opkET 100000 60 7 (opkArgs false)) opk4k152y = true := check_leaf (by kernel_rfl)
def opk4k154y : KB := opk4k152n.put 2000 ⟨2, 2, []⟩
def opk4k154n : KB := opk4k152n.put 2000 ⟨3, 7, []⟩
theorem opk4h155 : DT.leaf.check (okKD Try.prog opkKn opkDer [3, 4, 5, 6] opkET 100000 60 7 (opkArgs false)) opk4k154y = true := check_leaf (by kernel_rfl)
def opk4k156y : KB := opk4k154n.put 2000 ⟨3, 3, []⟩
def opk4k156n : KB := opk4k154n.put 2000 ⟨4, 7, []⟩
theorem opk4h157 : DT.leaf.check (okKD Try.prog opkKn opkDer [3, 4, 5, 6] opkET 100000 60 7 (opkArgs false)) opk4k156y = true := check_leaf (by kernel_rfl)
def opk4k158y : KB := opk4k156n.put 2000 ⟨4, 4, []⟩
def opk4k158n : KB := opk4k156n.put 2000 ⟨5, 7, []⟩
theorem opk4h159 : DT.leaf.check (okKD Try.prog opkKn opkDer [3, 4, 5, 6] opkET 100000 60 7 (opkArgs false)) opk4k158y = true := check_leaf (by kernel_rfl)
def opk4k160y : KB := opk4k158n.put 2000 ⟨5, 5, []⟩
def opk4k160n : KB := opk4k158n.put 2000 ⟨6, 7, []⟩
theorem opk4h161 : DT.leaf.check (okKD Try.prog opkKn opkDer [3, 4, 5, 6] opkET 100000 60 7 (opkArgs false)) opk4k160y = true := check_leaf (by kernel_rfl)
def opk4k162y : KB := opk4k160n.put 2000 ⟨6, 6, []⟩
def opk4k162n : KB := opk4k160n.put 2000 ⟨7, 7, []⟩
theorem opk4h163 : DT.leaf.check (okKD Try.prog opkKn opkDer [3, 4, 5, 6] opkET 100000 60 7 (opkArgs false)) opk4k162y = true := check_leaf (by kernel_rfl)
theorem opk4h164 : DT.leaf.check (okKD Try.prog opkKn opkDer [3, 4, 5, 6] opkET 100000 60 7 (opkArgs false)) opk4k162n = true := check_leaf (by kernel_rfl)
def opk4t162 : DT := .same 2000 (6) .leaf .leaf
theorem opk4h162 : opk4t162.check (okKD Try.prog opkKn opkDer [3, 4, 5, 6] opkET 100000 60 7 (opkArgs false)) opk4k160n = true := check_same (Ky := opk4k162y) (Kn := opk4k162n) (i := ⟨6, 7, []⟩) (by kernel_rfl) (by kernel_rfl) (by kernel_rfl) (.inr opk4h163) (.inr opk4h164)
def opk4t160 : DT := .same 2000 (5) .leaf opk4t162
theorem opk4h160 : opk4t160.check (okKD Try.prog opkKn opkDer [3, 4, 5, 6] opkET 100000 60 7 (opkArgs false)) opk4k158n = true := check_same (Ky := opk4k160y) (Kn := opk4k160n) (i := ⟨5, 7, []⟩) (by kernel_rfl) (by kernel_rfl) (by kernel_rfl) (.inr opk4h161) (.inr opk4h162)
def opk4t158 : DT := .same 2000 (4) .leaf opk4t160
theorem opk4h158 : opk4t158.check (okKD Try.prog opkKn opkDer [3, 4, 5, 6] opkET 100000 60 7 (opkArgs false)) opk4k156n = true := check_same (Ky := opk4k158y) (Kn := opk4k158n) (i := ⟨4, 7, []⟩) (by kernel_rfl) (by kernel_rfl) (by kernel_rfl) (.inr opk4h159) (.inr opk4h160)
def opk4t156 : DT := .same 2000 (3) .leaf opk4t158
theorem opk4h156 : opk4t156.check (okKD Try.prog opkKn opkDer [3, 4, 5, 6] opkET 100000 60 7 (opkArgs false)) opk4k154n = true := check_same (Ky := opk4k156y) (Kn := opk4k156n) (i := ⟨3, 7, []⟩) (by kernel_rfl) (by kernel_rfl) (by kernel_rfl) (.inr opk4h157) (.inr opk4h158)
def opk4t154 : DT := .same 2000 (2) .leaf opk4t156
theorem opk4h154 : opk4t154.check (okKD Try.prog opkKn opkDer [3, 4, 5, 6] opkET 100000 60 7 (opkArgs false)) opk4k152n = true := check_same (Ky := opk4k154y) (Kn := opk4k154n) (i := ⟨2, 7, []⟩) (by kernel_rfl) (by kernel_rfl) (by kernel_rfl) (.inr opk4h155) (.inr opk4h156)
def opk4t152 : DT := .same 2000 (1) .leaf opk4t154
theorem opk4h152 : opk4t152.check (okKD Try.prog opkKn opkDer [3, 4, 5, 6] opkET 100000 60 7 (opkArgs false)) opk4k150n = true := check_same (Ky := opk4k152y) (Kn := opk4k152n) (i := ⟨1, 7, []⟩) (by kernel_rfl) (by kernel_rfl) (by kernel_rfl) (.inr opk4h153) (.inr opk4h154)
def opk4t150 : DT := .same 2000 (0) .leaf opk4t152
theorem opk4h150 : opk4t150.check (okKD Try.prog opkKn opkDer [3, 4, 5, 6] opkET 100000 60 7 (opkArgs false)) opk4k149y = true := check_same (Ky := opk4k150y) (Kn := opk4k150n) (i := ⟨0, 7, []⟩) (by kernel_rfl) (by kernel_rfl) (by kernel_rfl) (.inr opk4h151) (.inr opk4h152)
theorem opk4h165 : DT.leaf.check (okKD Try.prog opkKn opkDer [3, 4, 5, 6] opkET 100000 60 7 (opkArgs false)) opk4k149n = true := check_leaf (by kernel_rfl)
def opk4t149 : DT := .same 9 (0) opk4t150 .leaf
theorem opk4h149 : opk4t149.check (okKD Try.prog opkKn opkDer [3, 4, 5, 6] opkET 100000 60 7 (opkArgs false)) opk4k148y = true := check_same (Ky := opk4k149y) (Kn := opk4k149n) (i := ⟨-9223372036854775808, 9223372036854775807, []⟩) (by kernel_rfl) (by kernel_rfl) (by kernel_rfl) (.inr opk4h150) (.inr opk4h165)
theorem opk4h166 : DT.leaf.check (okKD Try.prog opkKn opkDer [3, 4, 5, 6] opkET 100000 60 7 (opkArgs false)) opk4k148n = true := check_leaf (by kernel_rfl)
def opk4t148 : DT := .same 8 (0) opk4t149 .leaf
theorem opk4h148 : opk4t148.check (okKD Try.prog opkKn opkDer [3, 4, 5, 6] opkET 100000 60 7 (opkArgs false)) opk4k147y = true := check_same (Ky := opk4k148y) (Kn := opk4k148n) (i := ⟨-9223372036854775808, 9223372036854775807, []⟩) (by kernel_rfl) (by kernel_rfl) (by kernel_rfl) (.inr opk4h149) (.inr opk4h166)
theorem opk4h167 : DT.leaf.check (okKD Try.prog opkKn opkDer [3, 4, 5, 6] opkET 100000 60 7 (opkArgs false)) opk4k147n = true := check_leaf (by kernel_rfl)
def opk4t147 : DT := .same 7 (0) opk4t148 .leaf
theorem opk4h147 : opk4t147.check (okKD Try.prog opkKn opkDer [3, 4, 5, 6] opkET 100000 60 7 (opkArgs false)) opk4k146y = true := check_same (Ky := opk4k147y) (Kn := opk4k147n) (i := ⟨-9223372036854775808, 9223372036854775807, []⟩) (by kernel_rfl) (by kernel_rfl) (by kernel_rfl) (.inr opk4h148) (.inr opk4h167)
theorem opk4h168 : DT.leaf.check (okKD Try.prog opkKn opkDer [3, 4, 5, 6] opkET 100000 60 7 (opkArgs false)) opk4k146n = true := check_leaf (by kernel_rfl)
def opk4t146 : DT := .same 1006 (0) opk4t147 .leaf
theorem opk4h146 : opk4t146.check (okKD Try.prog opkKn opkDer [3, 4, 5, 6] opkET 100000 60 7 (opkArgs false)) opk4k145y = true := check_same (Ky := opk4k146y) (Kn := opk4k146n) (i := ⟨0, 2000, []⟩) (by kernel_rfl) (by kernel_rfl) (by kernel_rfl) (.inr opk4h147) (.inr opk4h168)
theorem opk4h169 : DT.leaf.check (okKD Try.prog opkKn opkDer [3, 4, 5, 6] opkET 100000 60 7 (opkArgs false)) opk4k145n = true := check_leaf (by kernel_rfl)
def opk4t145 : DT := .same 1005 (0) opk4t146 .leaf
theorem opk4h145 : opk4t145.check (okKD Try.prog opkKn opkDer [3, 4, 5, 6] opkET 100000 60 7 (opkArgs false)) opk4k144y = true := check_same (Ky := opk4k145y) (Kn := opk4k145n) (i := ⟨0, 2000, []⟩) (by kernel_rfl) (by kernel_rfl) (by kernel_rfl) (.inr opk4h146) (.inr opk4h169)
def opk4k170y : KB := opk4k144n.put 0 ⟨7, 7, [5, 4, 3, 2, 6, 1]⟩
def opk4k170n : KB := opk4k144n.put 0 ⟨-9223372036854775808, 9223372036854775807, [7, 5, 4, 3, 2, 6, 1]⟩
def opk4k171y : KB := opk4k170y.put 1005 ⟨0, 0, []⟩
def opk4k171n : KB := opk4k170y.put 1005 ⟨1, 2000, []⟩
def opk4k172y : KB := opk4k171y.put 1006 ⟨0, 0, []⟩
def opk4k172n : KB := opk4k171y.put 1006 ⟨1, 2000, []⟩
def opk4k173y : KB := opk4k172y.put 7 ⟨0, 0, []⟩
def opk4k173n : KB := opk4k172y.put 7 ⟨-9223372036854775808, 9223372036854775807, [0]⟩
def opk4k174y : KB := opk4k173y.put 8 ⟨0, 0, []⟩
def opk4k174n : KB := opk4k173y.put 8 ⟨-9223372036854775808, 9223372036854775807, [0]⟩
def opk4k175y : KB := opk4k174y.put 9 ⟨0, 0, []⟩
def opk4k175n : KB := opk4k174y.put 9 ⟨-9223372036854775808, 9223372036854775807, [0]⟩
def opk4k176y : KB := opk4k175y.put 2000 ⟨0, 0, []⟩
def opk4k176n : KB := opk4k175y.put 2000 ⟨1, 7, []⟩
theorem opk4h177 : DT.leaf.check (okKD Try.prog opkKn opkDer [3, 4, 5, 6] opkET 100000 60 7 (opkArgs false)) opk4k176y = true := check_leaf (by kernel_rfl)
def opk4k178y : KB := opk4k176n.put 2000 ⟨1, 1, []⟩
def opk4k178n : KB := opk4k176n.put 2000 ⟨2, 7, []⟩
theorem opk4h179 : DT.leaf.check (okKD Try.prog opkKn opkDer [3, 4, 5, 6] opkET 100000 60 7 (opkArgs false)) opk4k178y = true := check_leaf (by kernel_rfl)
def opk4k180y : KB := opk4k178n.put 2000 ⟨2, 2, []⟩
def opk4k180n : KB := opk4k178n.put 2000 ⟨3, 7, []⟩
theorem opk4h181 : DT.leaf.check (okKD Try.prog opkKn opkDer [3, 4, 5, 6] opkET 100000 60 7 (opkArgs false)) opk4k180y = true := check_leaf (by kernel_rfl)
def opk4k182y : KB := opk4k180n.put 2000 ⟨3, 3, []⟩
def opk4k182n : KB := opk4k180n.put 2000 ⟨4, 7, []⟩
theorem opk4h183 : DT.leaf.check (okKD Try.prog opkKn opkDer [3, 4, 5, 6] opkET 100000 60 7 (opkArgs false)) opk4k182y = true := check_leaf (by kernel_rfl)
def opk4k184y : KB := opk4k182n.put 2000 ⟨4, 4, []⟩
def opk4k184n : KB := opk4k182n.put 2000 ⟨5, 7, []⟩
theorem opk4h185 : DT.leaf.check (okKD Try.prog opkKn opkDer [3, 4, 5, 6] opkET 100000 60 7 (opkArgs false)) opk4k184y = true := check_leaf (by kernel_rfl)
def opk4k186y : KB := opk4k184n.put 2000 ⟨5, 5, []⟩
def opk4k186n : KB := opk4k184n.put 2000 ⟨6, 7, []⟩
theorem opk4h187 : DT.leaf.check (okKD Try.prog opkKn opkDer [3, 4, 5, 6] opkET 100000 60 7 (opkArgs false)) opk4k186y = true := check_leaf (by kernel_rfl)
def opk4k188y : KB := opk4k186n.put 2000 ⟨6, 6, []⟩
def opk4k188n : KB := opk4k186n.put 2000 ⟨7, 7, []⟩
theorem opk4h189 : DT.leaf.check (okKD Try.prog opkKn opkDer [3, 4, 5, 6] opkET 100000 60 7 (opkArgs false)) opk4k188y = true := check_leaf (by kernel_rfl)
theorem opk4h190 : DT.leaf.check (okKD Try.prog opkKn opkDer [3, 4, 5, 6] opkET 100000 60 7 (opkArgs false)) opk4k188n = true := check_leaf (by kernel_rfl)
def opk4t188 : DT := .same 2000 (6) .leaf .leaf
theorem opk4h188 : opk4t188.check (okKD Try.prog opkKn opkDer [3, 4, 5, 6] opkET 100000 60 7 (opkArgs false)) opk4k186n = true := check_same (Ky := opk4k188y) (Kn := opk4k188n) (i := ⟨6, 7, []⟩) (by kernel_rfl) (by kernel_rfl) (by kernel_rfl) (.inr opk4h189) (.inr opk4h190)
def opk4t186 : DT := .same 2000 (5) .leaf opk4t188
theorem opk4h186 : opk4t186.check (okKD Try.prog opkKn opkDer [3, 4, 5, 6] opkET 100000 60 7 (opkArgs false)) opk4k184n = true := check_same (Ky := opk4k186y) (Kn := opk4k186n) (i := ⟨5, 7, []⟩) (by kernel_rfl) (by kernel_rfl) (by kernel_rfl) (.inr opk4h187) (.inr opk4h188)
def opk4t184 : DT := .same 2000 (4) .leaf opk4t186
theorem opk4h184 : opk4t184.check (okKD Try.prog opkKn opkDer [3, 4, 5, 6] opkET 100000 60 7 (opkArgs false)) opk4k182n = true := check_same (Ky := opk4k184y) (Kn := opk4k184n) (i := ⟨4, 7, []⟩) (by kernel_rfl) (by kernel_rfl) (by kernel_rfl) (.inr opk4h185) (.inr opk4h186)
def opk4t182 : DT := .same 2000 (3) .leaf opk4t184
theorem opk4h182 : opk4t182.check (okKD Try.prog opkKn opkDer [3, 4, 5, 6] opkET 100000 60 7 (opkArgs false)) opk4k180n = true := check_same (Ky := opk4k182y) (Kn := opk4k182n) (i := ⟨3, 7, []⟩) (by kernel_rfl) (by kernel_rfl) (by kernel_rfl) (.inr opk4h183) (.inr opk4h184)
def opk4t180 : DT := .same 2000 (2) .leaf opk4t182
theorem opk4h180 : opk4t180.check (okKD Try.prog opkKn opkDer [3, 4, 5, 6] opkET 100000 60 7 (opkArgs false)) opk4k178n = true := check_same (Ky := opk4k180y) (Kn := opk4k180n) (i := ⟨2, 7, []⟩) (by kernel_rfl) (by kernel_rfl) (by kernel_rfl) (.inr opk4h181) (.inr opk4h182)
def opk4t178 : DT := .same 2000 (1) .leaf opk4t180
theorem opk4h178 : opk4t178.check (okKD Try.prog opkKn opkDer [3, 4, 5, 6] opkET 100000 60 7 (opkArgs false)) opk4k176n = true := check_same (Ky := opk4k178y) (Kn := opk4k178n) (i := ⟨1, 7, []⟩) (by kernel_rfl) (by kernel_rfl) (by kernel_rfl) (.inr opk4h179) (.inr opk4h180)
def opk4t176 : DT := .same 2000 (0) .leaf opk4t178
theorem opk4h176 : opk4t176.check (okKD Try.prog opkKn opkDer [3, 4, 5, 6] opkET 100000 60 7 (opkArgs false)) opk4k175y = true := check_same (Ky := opk4k176y) (Kn := opk4k176n) (i := ⟨0, 7, []⟩) (by kernel_rfl) (by kernel_rfl) (by kernel_rfl) (.inr opk4h177) (.inr opk4h178)
theorem opk4h191 : DT.leaf.check (okKD Try.prog opkKn opkDer [3, 4, 5, 6] opkET 100000 60 7 (opkArgs false)) opk4k175n = true := check_leaf (by kernel_rfl)
def opk4t175 : DT := .same 9 (0) opk4t176 .leaf
theorem opk4h175 : opk4t175.check (okKD Try.prog opkKn opkDer [3, 4, 5, 6] opkET 100000 60 7 (opkArgs false)) opk4k174y = true := check_same (Ky := opk4k175y) (Kn := opk4k175n) (i := ⟨-9223372036854775808, 9223372036854775807, []⟩) (by kernel_rfl) (by kernel_rfl) (by kernel_rfl) (.inr opk4h176) (.inr opk4h191)
theorem opk4h192 : DT.leaf.check (okKD Try.prog opkKn opkDer [3, 4, 5, 6] opkET 100000 60 7 (opkArgs false)) opk4k174n = true := check_leaf (by kernel_rfl)
def opk4t174 : DT := .same 8 (0) opk4t175 .leaf
theorem opk4h174 : opk4t174.check (okKD Try.prog opkKn opkDer [3, 4, 5, 6] opkET 100000 60 7 (opkArgs false)) opk4k173y = true := check_same (Ky := opk4k174y) (Kn := opk4k174n) (i := ⟨-9223372036854775808, 9223372036854775807, []⟩) (by kernel_rfl) (by kernel_rfl) (by kernel_rfl) (.inr opk4h175) (.inr opk4h192)
theorem opk4h193 : DT.leaf.check (okKD Try.prog opkKn opkDer [3, 4, 5, 6] opkET 100000 60 7 (opkArgs false)) opk4k173n = true := check_leaf (by kernel_rfl)
def opk4t173 : DT := .same 7 (0) opk4t174 .leaf
theorem opk4h173 : opk4t173.check (okKD Try.prog opkKn opkDer [3, 4, 5, 6] opkET 100000 60 7 (opkArgs false)) opk4k172y = true := check_same (Ky := opk4k173y) (Kn := opk4k173n) (i := ⟨-9223372036854775808, 9223372036854775807, []⟩) (by kernel_rfl) (by kernel_rfl) (by kernel_rfl) (.inr opk4h174) (.inr opk4h193)
theorem opk4h194 : DT.leaf.check (okKD Try.prog opkKn opkDer [3, 4, 5, 6] opkET 100000 60 7 (opkArgs false)) opk4k172n = true := check_leaf (by kernel_rfl)
def opk4t172 : DT := .same 1006 (0) opk4t173 .leaf
theorem opk4h172 : opk4t172.check (okKD Try.prog opkKn opkDer [3, 4, 5, 6] opkET 100000 60 7 (opkArgs false)) opk4k171y = true := check_same (Ky := opk4k172y) (Kn := opk4k172n) (i := ⟨0, 2000, []⟩) (by kernel_rfl) (by kernel_rfl) (by kernel_rfl) (.inr opk4h173) (.inr opk4h194)
theorem opk4h195 : DT.leaf.check (okKD Try.prog opkKn opkDer [3, 4, 5, 6] opkET 100000 60 7 (opkArgs false)) opk4k171n = true := check_leaf (by kernel_rfl)
def opk4t171 : DT := .same 1005 (0) opk4t172 .leaf
theorem opk4h171 : opk4t171.check (okKD Try.prog opkKn opkDer [3, 4, 5, 6] opkET 100000 60 7 (opkArgs false)) opk4k170y = true := check_same (Ky := opk4k171y) (Kn := opk4k171n) (i := ⟨0, 2000, []⟩) (by kernel_rfl) (by kernel_rfl) (by kernel_rfl) (.inr opk4h172) (.inr opk4h195)
theorem opk4h196 : DT.leaf.check (okKD Try.prog opkKn opkDer [3, 4, 5, 6] opkET 100000 60 7 (opkArgs false)) opk4k170n = true := check_leaf (by kernel_rfl)
def opk4t170 : DT := .same 0 (7) opk4t171 .leaf
theorem opk4h170 : opk4t170.check (okKD Try.prog opkKn opkDer [3, 4, 5, 6] opkET 100000 60 7 (opkArgs false)) opk4k144n = true := check_same (Ky := opk4k170y) (Kn := opk4k170n) (i := ⟨-9223372036854775808, 9223372036854775807, [5, 4, 3, 2, 6, 1]⟩) (by kernel_rfl) (by kernel_rfl) (by kernel_rfl) (.inr opk4h171) (.inr opk4h196)
def opk4t144 : DT := .same 0 (5) opk4t145 opk4t170
theorem opk4h144 : opk4t144.check (okKD Try.prog opkKn opkDer [3, 4, 5, 6] opkET 100000 60 7 (opkArgs false)) opk4k142n = true := check_same (Ky := opk4k144y) (Kn := opk4k144n) (i := ⟨-9223372036854775808, 9223372036854775807, [4, 3, 2, 6, 1]⟩) (by kernel_rfl) (by kernel_rfl) (by kernel_rfl) (.inr opk4h145) (.inr opk4h170)
def opk4t142 : DT := .same 0 (4) .leaf opk4t144
theorem opk4h142 : opk4t142.check (okKD Try.prog opkKn opkDer [3, 4, 5, 6] opkET 100000 60 7 (opkArgs false)) opk4k110n = true := check_same (Ky := opk4k142y) (Kn := opk4k142n) (i := ⟨-9223372036854775808, 9223372036854775807, [3, 2, 6, 1]⟩) (by kernel_rfl) (by kernel_rfl) (by kernel_rfl) (.inr opk4h143) (.inr opk4h144)
def opk4t110 : DT := .same 0 (3) opk4t111 opk4t142
theorem opk4h110 : opk4t110.check (okKD Try.prog opkKn opkDer [3, 4, 5, 6] opkET 100000 60 7 (opkArgs false)) opk4k76n = true := check_same (Ky := opk4k110y) (Kn := opk4k110n) (i := ⟨-9223372036854775808, 9223372036854775807, [2, 6, 1]⟩) (by kernel_rfl) (by kernel_rfl) (by kernel_rfl) (.inr opk4h111) (.inr opk4h142)
def opk4t76 : DT := .same 0 (2) opk4t77 opk4t110
theorem opk4h76 : opk4t76.check (okKD Try.prog opkKn opkDer [3, 4, 5, 6] opkET 100000 60 7 (opkArgs false)) opk4k46n = true := check_same (Ky := opk4k76y) (Kn := opk4k76n) (i := ⟨-9223372036854775808, 9223372036854775807, [6, 1]⟩) (by kernel_rfl) (by kernel_rfl) (by kernel_rfl) (.inr opk4h77) (.inr opk4h110)
def opk4t46 : DT := .same 0 (6) opk4t47 opk4t76
theorem opk4h46 : opk4t46.check (okKD Try.prog opkKn opkDer [3, 4, 5, 6] opkET 100000 60 7 (opkArgs false)) opk4k16n = true := check_same (Ky := opk4k46y) (Kn := opk4k46n) (i := ⟨-9223372036854775808, 9223372036854775807, [1]⟩) (by kernel_rfl) (by kernel_rfl) (by kernel_rfl) (.inr opk4h47) (.inr opk4h76)
def opk4t16 : DT := .same 0 (1) opk4t17 opk4t46
theorem opk4h16 : opk4t16.check (okKD Try.prog opkKn opkDer [3, 4, 5, 6] opkET 100000 60 7 (opkArgs false)) opk4k15y = true := check_same (Ky := opk4k16y) (Kn := opk4k16n) (i := ⟨-9223372036854775808, 9223372036854775807, []⟩) (by kernel_rfl) (by kernel_rfl) (by kernel_rfl) (.inr opk4h17) (.inr opk4h46)
theorem opk4h197 : DT.leaf.check (okKD Try.prog opkKn opkDer [3, 4, 5, 6] opkET 100000 60 7 (opkArgs false)) opk4k15n = true := check_leaf (by kernel_rfl)
def opk4t15 : DT := .less 1004 (17) opk4t16 .leaf
theorem opk4h15 : opk4t15.check (okKD Try.prog opkKn opkDer [3, 4, 5, 6] opkET 100000 60 7 (opkArgs false)) opk4k13n = true := check_less (Ky := opk4k15y) (Kn := opk4k15n) (i := ⟨1, 2000, []⟩) (by kernel_rfl) (by kernel_rfl) (by kernel_rfl) (.inr opk4h16) (.inr opk4h197)
def opk4t13 : DT := .less 1004 (1) .leaf opk4t15
theorem opk4h13 : opk4t13.check (okKD Try.prog opkKn opkDer [3, 4, 5, 6] opkET 100000 60 7 (opkArgs false)) opk4k12y = true := check_less (Ky := opk4k13y) (Kn := opk4k13n) (i := ⟨0, 2000, []⟩) (by kernel_rfl) (by kernel_rfl) (by kernel_rfl) (.inr opk4h14) (.inr opk4h15)
theorem opk4h198 : DT.leaf.check (okKD Try.prog opkKn opkDer [3, 4, 5, 6] opkET 100000 60 7 (opkArgs false)) opk4k12n = true := check_leaf (by kernel_rfl)
def opk4t12 : DT := .less 1003 (17) opk4t13 .leaf
theorem opk4h12 : opk4t12.check (okKD Try.prog opkKn opkDer [3, 4, 5, 6] opkET 100000 60 7 (opkArgs false)) opk4k10n = true := check_less (Ky := opk4k12y) (Kn := opk4k12n) (i := ⟨1, 2000, []⟩) (by kernel_rfl) (by kernel_rfl) (by kernel_rfl) (.inr opk4h13) (.inr opk4h198)
def opk4t10 : DT := .less 1003 (1) .leaf opk4t12
theorem opk4h10 : opk4t10.check (okKD Try.prog opkKn opkDer [3, 4, 5, 6] opkET 100000 60 7 (opkArgs false)) opk4k9y = true := check_less (Ky := opk4k10y) (Kn := opk4k10n) (i := ⟨0, 2000, []⟩) (by kernel_rfl) (by kernel_rfl) (by kernel_rfl) (.inr opk4h11) (.inr opk4h12)
theorem opk4h199 : DT.leaf.check (okKD Try.prog opkKn opkDer [3, 4, 5, 6] opkET 100000 60 7 (opkArgs false)) opk4k9n = true := check_leaf (by kernel_rfl)
def opk4t9 : DT := .less 2 (1099511627777) opk4t10 .leaf
theorem opk4h9 : opk4t9.check (okKD Try.prog opkKn opkDer [3, 4, 5, 6] opkET 100000 60 7 (opkArgs false)) opk4k7n = true := check_less (Ky := opk4k9y) (Kn := opk4k9n) (i := ⟨1, 9223372036854775807, []⟩) (by kernel_rfl) (by kernel_rfl) (by kernel_rfl) (.inr opk4h10) (.inr opk4h199)
def opk4t7 : DT := .less 2 (1) .leaf opk4t9
theorem opk4h7 : opk4t7.check (okKD Try.prog opkKn opkDer [3, 4, 5, 6] opkET 100000 60 7 (opkArgs false)) opk4k6y = true := check_less (Ky := opk4k7y) (Kn := opk4k7n) (i := ⟨-9223372036854775808, 9223372036854775807, []⟩) (by kernel_rfl) (by kernel_rfl) (by kernel_rfl) (.inr opk4h8) (.inr opk4h9)
theorem opk4h200 : DT.leaf.check (okKD Try.prog opkKn opkDer [3, 4, 5, 6] opkET 100000 60 7 (opkArgs false)) opk4k6n = true := check_leaf (by kernel_rfl)
def opk4t6 : DT := .less 1 (1048577) opk4t7 .leaf
theorem opk4h6 : opk4t6.check (okKD Try.prog opkKn opkDer [3, 4, 5, 6] opkET 100000 60 7 (opkArgs false)) opk4k4n = true := check_less (Ky := opk4k6y) (Kn := opk4k6n) (i := ⟨1, 9223372036854775807, []⟩) (by kernel_rfl) (by kernel_rfl) (by kernel_rfl) (.inr opk4h7) (.inr opk4h200)
def opk4t4 : DT := .less 1 (1) .leaf opk4t6
theorem opk4h4 : opk4t4.check (okKD Try.prog opkKn opkDer [3, 4, 5, 6] opkET 100000 60 7 (opkArgs false)) opk4k3y = true := check_less (Ky := opk4k4y) (Kn := opk4k4n) (i := ⟨-9223372036854775808, 9223372036854775807, []⟩) (by kernel_rfl) (by kernel_rfl) (by kernel_rfl) (.inr opk4h5) (.inr opk4h6)
theorem opk4h201 : DT.leaf.check (okKD Try.prog opkKn opkDer [3, 4, 5, 6] opkET 100000 60 7 (opkArgs false)) opk4k3n = true := check_leaf (by kernel_rfl)
def opk4t3 : DT := .less 1006 (2001) opk4t4 .leaf
theorem opk4h3 : opk4t3.check (okKD Try.prog opkKn opkDer [3, 4, 5, 6] opkET 100000 60 7 (opkArgs false)) opk4k2y = true := check_less (Ky := opk4k3y) (Kn := opk4k3n) (i := ⟨0, 9223372036854775807, []⟩) (by kernel_rfl) (by kernel_rfl) (by kernel_rfl) (.inr opk4h4) (.inr opk4h201)
theorem opk4h202 : DT.leaf.check (okKD Try.prog opkKn opkDer [3, 4, 5, 6] opkET 100000 60 7 (opkArgs false)) opk4k2n = true := check_leaf (by kernel_rfl)
def opk4t2 : DT := .less 1005 (2001) opk4t3 .leaf
theorem opk4h2 : opk4t2.check (okKD Try.prog opkKn opkDer [3, 4, 5, 6] opkET 100000 60 7 (opkArgs false)) opk4k1y = true := check_less (Ky := opk4k2y) (Kn := opk4k2n) (i := ⟨0, 9223372036854775807, []⟩) (by kernel_rfl) (by kernel_rfl) (by kernel_rfl) (.inr opk4h3) (.inr opk4h202)
theorem opk4h203 : DT.leaf.check (okKD Try.prog opkKn opkDer [3, 4, 5, 6] opkET 100000 60 7 (opkArgs false)) opk4k1n = true := check_leaf (by kernel_rfl)
def opk4t1 : DT := .less 1004 (2001) opk4t2 .leaf
theorem opk4h1 : opk4t1.check (okKD Try.prog opkKn opkDer [3, 4, 5, 6] opkET 100000 60 7 (opkArgs false)) opk4k0y = true := check_less (Ky := opk4k1y) (Kn := opk4k1n) (i := ⟨0, 9223372036854775807, []⟩) (by kernel_rfl) (by kernel_rfl) (by kernel_rfl) (.inr opk4h2) (.inr opk4h203)
theorem opk4h204 : DT.leaf.check (okKD Try.prog opkKn opkDer [3, 4, 5, 6] opkET 100000 60 7 (opkArgs false)) opk4k0n = true := check_leaf (by kernel_rfl)
def opk4t0 : DT := .less 1003 (2001) opk4t1 .leaf
theorem opk4h0 : opk4t0.check (okKD Try.prog opkKn opkDer [3, 4, 5, 6] opkET 100000 60 7 (opkArgs false)) opkKB4 = true := check_less (Ky := opk4k0y) (Kn := opk4k0n) (i := ⟨0, 9223372036854775807, []⟩) (by kernel_rfl) (by kernel_rfl) (by kernel_rfl) (.inr opk4h1) (.inr opk4h204)
theorem opkCheck4 : opk4t0.check (okKD Try.prog opkKn opkDer [3, 4, 5, 6] opkET 100000 60 7 (opkArgs false)) (opkKB ⟨0, 0, []⟩ ⟨1099511627776, 1099511627776, []⟩) = true := opk4h0
end Go.Proofs.Ytliljfncbljfpaa
