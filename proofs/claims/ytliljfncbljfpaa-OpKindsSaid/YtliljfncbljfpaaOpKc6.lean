/- OpKinds: tree 6. -/
import Derived.Test.YtliljfncbljfpaaOpKa
import Derived.ProofKit
namespace Go.Proofs.Ytliljfncbljfpaa
open Go.RowKit
set_option linter.unusedVariables false
set_option linter.unusedSimpArgs false
set_option maxRecDepth 100000

def opkKB6 : KB := opkKB ⟨-9223372036854775808, -1, []⟩ opkBig
def opk6k0y : KB := opkKB6.put 1003 ⟨0, 2000, []⟩
def opk6k0n : KB := opkKB6.put 1003 ⟨2001, 9223372036854775807, []⟩
def opk6k1y : KB := opk6k0y.put 1004 ⟨0, 2000, []⟩
def opk6k1n : KB := opk6k0y.put 1004 ⟨2001, 9223372036854775807, []⟩
def opk6k2y : KB := opk6k1y.put 1005 ⟨0, 2000, []⟩
def opk6k2n : KB := opk6k1y.put 1005 ⟨2001, 9223372036854775807, []⟩
def opk6k3y : KB := opk6k2y.put 1006 ⟨0, 2000, []⟩
def opk6k3n : KB := opk6k2y.put 1006 ⟨2001, 9223372036854775807, []⟩
def opk6k4y : KB := opk6k3y.put 1 ⟨-9223372036854775808, 0, []⟩
def opk6k4n : KB := opk6k3y.put 1 ⟨1, 9223372036854775807, []⟩
theorem opk6h5 : DT.leaf.check (okKD Try.prog opkKn opkDer [3, 4, 5, 6] opkET 100000 60 7 (opkArgs false)) opk6k4y = true := check_leaf (by kernel_rfl)
def opk6k6y : KB := opk6k4n.put 1 ⟨1, 1048576, []⟩
def opk6k6n : KB := opk6k4n.put 1 ⟨1048577, 9223372036854775807, []⟩
def opk6k7y : KB := opk6k6y.put 2 ⟨-9223372036854775808, 0, []⟩
def opk6k7n : KB := opk6k6y.put 2 ⟨1, 9223372036854775807, []⟩
theorem opk6h8 : DT.leaf.check (okKD Try.prog opkKn opkDer [3, 4, 5, 6] opkET 100000 60 7 (opkArgs false)) opk6k7y = true := check_leaf (by kernel_rfl)
def opk6k9y : KB := opk6k7n.put 2 ⟨1, 1099511627776, []⟩
def opk6k9n : KB := opk6k7n.put 2 ⟨1099511627777, 9223372036854775807, []⟩
def opk6k10y : KB := opk6k9y.put 1003 ⟨0, 0, []⟩
def opk6k10n : KB := opk6k9y.put 1003 ⟨1, 2000, []⟩
theorem opk6h11 : DT.leaf.check (okKD Try.prog opkKn opkDer [3, 4, 5, 6] opkET 100000 60 7 (opkArgs false)) opk6k10y = true := check_leaf (by kernel_rfl)
def opk6k12y : KB := opk6k10n.put 1003 ⟨1, 16, []⟩
def opk6k12n : KB := opk6k10n.put 1003 ⟨17, 2000, []⟩
def opk6k13y : KB := opk6k12y.put 1004 ⟨0, 0, []⟩
def opk6k13n : KB := opk6k12y.put 1004 ⟨1, 2000, []⟩
theorem opk6h14 : DT.leaf.check (okKD Try.prog opkKn opkDer [3, 4, 5, 6] opkET 100000 60 7 (opkArgs false)) opk6k13y = true := check_leaf (by kernel_rfl)
def opk6k15y : KB := opk6k13n.put 1004 ⟨1, 16, []⟩
def opk6k15n : KB := opk6k13n.put 1004 ⟨17, 2000, []⟩
def opk6k16y : KB := opk6k15y.put 0 ⟨1, 1, []⟩
def opk6k16n : KB := opk6k15y.put 0 ⟨-9223372036854775808, 9223372036854775807, [1]⟩
def opk6k17y : KB := opk6k16y.put 7 ⟨-9223372036854775808, -1, []⟩
def opk6k17n : KB := opk6k16y.put 7 ⟨0, 9223372036854775807, []⟩
theorem opk6h18 : DT.leaf.check (okKD Try.prog opkKn opkDer [3, 4, 5, 6] opkET 100000 60 7 (opkArgs false)) opk6k17y = true := check_leaf (by kernel_rfl)
def opk6k19y : KB := opk6k17n.put 7 ⟨0, 3, []⟩
def opk6k19n : KB := opk6k17n.put 7 ⟨4, 9223372036854775807, []⟩
def opk6k20y : KB := opk6k19y.put 8 ⟨-9223372036854775808, 0, []⟩
def opk6k20n : KB := opk6k19y.put 8 ⟨1, 9223372036854775807, []⟩
theorem opk6h21 : DT.leaf.check (okKD Try.prog opkKn opkDer [3, 4, 5, 6] opkET 100000 60 7 (opkArgs false)) opk6k20y = true := check_leaf (by kernel_rfl)
def opk6k22y : KB := opk6k20n.put 8 ⟨1, 1048576, []⟩
def opk6k22n : KB := opk6k20n.put 8 ⟨1048577, 9223372036854775807, []⟩
def opk6k23y : KB := opk6k22y.put 1005 ⟨0, 0, []⟩
def opk6k23n : KB := opk6k22y.put 1005 ⟨1, 2000, []⟩
def opk6k24y : KB := opk6k23y.put 1006 ⟨0, 0, []⟩
def opk6k24n : KB := opk6k23y.put 1006 ⟨1, 2000, []⟩
def opk6k25y : KB := opk6k24y.put 9 ⟨0, 0, []⟩
def opk6k25n : KB := opk6k24y.put 9 ⟨-9223372036854775808, 9223372036854775807, [0]⟩
theorem opk6h26 : DT.leaf.check (okKD Try.prog opkKn opkDer [3, 4, 5, 6] opkET 100000 60 7 (opkArgs false)) opk6k25y = true := check_leaf (by kernel_rfl)
theorem opk6h27 : DT.leaf.check (okKD Try.prog opkKn opkDer [3, 4, 5, 6] opkET 100000 60 7 (opkArgs false)) opk6k25n = true := check_leaf (by kernel_rfl)
def opk6t25 : DT := .same 9 (0) .leaf .leaf
theorem opk6h25 : opk6t25.check (okKD Try.prog opkKn opkDer [3, 4, 5, 6] opkET 100000 60 7 (opkArgs false)) opk6k24y = true := check_same (Ky := opk6k25y) (Kn := opk6k25n) (i := ⟨-9223372036854775808, 9223372036854775807, []⟩) (by kernel_rfl) (by kernel_rfl) (by kernel_rfl) (.inr opk6h26) (.inr opk6h27)
theorem opk6h28 : DT.leaf.check (okKD Try.prog opkKn opkDer [3, 4, 5, 6] opkET 100000 60 7 (opkArgs false)) opk6k24n = true := check_leaf (by kernel_rfl)
def opk6t24 : DT := .same 1006 (0) opk6t25 .leaf
theorem opk6h24 : opk6t24.check (okKD Try.prog opkKn opkDer [3, 4, 5, 6] opkET 100000 60 7 (opkArgs false)) opk6k23y = true := check_same (Ky := opk6k24y) (Kn := opk6k24n) (i := ⟨0, 2000, []⟩) (by kernel_rfl) (by kernel_rfl) (by kernel_rfl) (.inr opk6h25) (.inr opk6h28)
theorem opk6h29 : DT.leaf.check (okKD Try.prog opkKn opkDer [3, 4, 5, 6] opkET 100000 60 7 (opkArgs false)) opk6k23n = true := check_leaf (by kernel_rfl)
def opk6t23 : DT := .same 1005 (0) opk6t24 .leaf
theorem opk6h23 : opk6t23.check (okKD Try.prog opkKn opkDer [3, 4, 5, 6] opkET 100000 60 7 (opkArgs false)) opk6k22y = true := check_same (Ky := opk6k23y) (Kn := opk6k23n) (i := ⟨0, 2000, []⟩) (by kernel_rfl) (by kernel_rfl) (by kernel_rfl) (.inr opk6h24) (.inr opk6h29)
theorem opk6h30 : DT.leaf.check (okKD Try.prog opkKn opkDer [3, 4, 5, 6] opkET 100000 60 7 (opkArgs false)) opk6k22n = true := check_leaf (by kernel_rfl)
def opk6t22 : DT := .less 8 (1048577) opk6t23 .leaf
theorem opk6h22 : opk6t22.check (okKD Try.prog opkKn opkDer [3, 4, 5, 6] opkET 100000 60 7 (opkArgs false)) opk6k20n = true := check_less (Ky := opk6k22y) (Kn := opk6k22n) (i := ⟨1, 9223372036854775807, []⟩) (by kernel_rfl) (by kernel_rfl) (by kernel_rfl) (.inr opk6h23) (.inr opk6h30)
def opk6t20 : DT := .less 8 (1) .leaf opk6t22
theorem opk6h20 : opk6t20.check (okKD Try.prog opkKn opkDer [3, 4, 5, 6] opkET 100000 60 7 (opkArgs false)) opk6k19y = true := check_less (Ky := opk6k20y) (Kn := opk6k20n) (i := ⟨-9223372036854775808, 9223372036854775807, []⟩) (by kernel_rfl) (by kernel_rfl) (by kernel_rfl) (.inr opk6h21) (.inr opk6h22)
theorem opk6h31 : DT.leaf.check (okKD Try.prog opkKn opkDer [3, 4, 5, 6] opkET 100000 60 7 (opkArgs false)) opk6k19n = true := check_leaf (by kernel_rfl)
def opk6t19 : DT := .less 7 (4) opk6t20 .leaf
theorem opk6h19 : opk6t19.check (okKD Try.prog opkKn opkDer [3, 4, 5, 6] opkET 100000 60 7 (opkArgs false)) opk6k17n = true := check_less (Ky := opk6k19y) (Kn := opk6k19n) (i := ⟨0, 9223372036854775807, []⟩) (by kernel_rfl) (by kernel_rfl) (by kernel_rfl) (.inr opk6h20) (.inr opk6h31)
def opk6t17 : DT := .less 7 (0) .leaf opk6t19
theorem opk6h17 : opk6t17.check (okKD Try.prog opkKn opkDer [3, 4, 5, 6] opkET 100000 60 7 (opkArgs false)) opk6k16y = true := check_less (Ky := opk6k17y) (Kn := opk6k17n) (i := ⟨-9223372036854775808, 9223372036854775807, []⟩) (by kernel_rfl) (by kernel_rfl) (by kernel_rfl) (.inr opk6h18) (.inr opk6h19)
def opk6k32y : KB := opk6k16n.put 0 ⟨6, 6, [1]⟩
def opk6k32n : KB := opk6k16n.put 0 ⟨-9223372036854775808, 9223372036854775807, [6, 1]⟩
def opk6k33y : KB := opk6k32y.put 7 ⟨-9223372036854775808, -1, []⟩
def opk6k33n : KB := opk6k32y.put 7 ⟨0, 9223372036854775807, []⟩
theorem opk6h34 : DT.leaf.check (okKD Try.prog opkKn opkDer [3, 4, 5, 6] opkET 100000 60 7 (opkArgs false)) opk6k33y = true := check_leaf (by kernel_rfl)
def opk6k35y : KB := opk6k33n.put 7 ⟨0, 3, []⟩
def opk6k35n : KB := opk6k33n.put 7 ⟨4, 9223372036854775807, []⟩
def opk6k36y : KB := opk6k35y.put 8 ⟨-9223372036854775808, 0, []⟩
def opk6k36n : KB := opk6k35y.put 8 ⟨1, 9223372036854775807, []⟩
theorem opk6h37 : DT.leaf.check (okKD Try.prog opkKn opkDer [3, 4, 5, 6] opkET 100000 60 7 (opkArgs false)) opk6k36y = true := check_leaf (by kernel_rfl)
def opk6k38y : KB := opk6k36n.put 8 ⟨1, 1048576, []⟩
def opk6k38n : KB := opk6k36n.put 8 ⟨1048577, 9223372036854775807, []⟩
def opk6k39y : KB := opk6k38y.put 1005 ⟨0, 0, []⟩
def opk6k39n : KB := opk6k38y.put 1005 ⟨1, 2000, []⟩
def opk6k40y : KB := opk6k39y.put 1006 ⟨0, 0, []⟩
def opk6k40n : KB := opk6k39y.put 1006 ⟨1, 2000, []⟩
def opk6k41y : KB := opk6k40y.put 9 ⟨0, 0, []⟩
def opk6k41n : KB := opk6k40y.put 9 ⟨-9223372036854775808, 9223372036854775807, [0]⟩
theorem opk6h42 : DT.leaf.check (okKD Try.prog opkKn opkDer [3, 4, 5, 6] opkET 100000 60 7 (opkArgs false)) opk6k41y = true := check_leaf (by kernel_rfl)
theorem opk6h43 : DT.leaf.check (okKD Try.prog opkKn opkDer [3, 4, 5, 6] opkET 100000 60 7 (opkArgs false)) opk6k41n = true := check_leaf (by kernel_rfl)
def opk6t41 : DT := .same 9 (0) .leaf .leaf
theorem opk6h41 : opk6t41.check (okKD Try.prog opkKn opkDer [3, 4, 5, 6] opkET 100000 60 7 (opkArgs false)) opk6k40y = true := check_same (Ky := opk6k41y) (Kn := opk6k41n) (i := ⟨-9223372036854775808, 9223372036854775807, []⟩) (by kernel_rfl) (by kernel_rfl) (by kernel_rfl) (.inr opk6h42) (.inr opk6h43)
theorem opk6h44 : DT.leaf.check (okKD Try.prog opkKn opkDer [3, 4, 5, 6] opkET 100000 60 7 (opkArgs false)) opk6k40n = true := check_leaf (by kernel_rfl)
def opk6t40 : DT := .same 1006 (0) opk6t41 .leaf
theorem opk6h40 : opk6t40.check (okKD Try.prog opkKn opkDer [3, 4, 5, 6] opkET 100000 60 7 (opkArgs false)) opk6k39y = true := check_same (Ky := opk6k40y) (Kn := opk6k40n) (i := ⟨0, 2000, []⟩) (by kernel_rfl) (by kernel_rfl) (by kernel_rfl) (.inr opk6h41) (.inr opk6h44)
theorem opk6h45 : DT.leaf.check (okKD Try.prog opkKn opkDer [3, 4, 5, 6] opkET 100000 60 7 (opkArgs false)) opk6k39n = true := check_leaf (by kernel_rfl)
def opk6t39 : DT := .same 1005 (0) opk6t40 .leaf
theorem opk6h39 : opk6t39.check (okKD Try.prog opkKn opkDer [3, 4, 5, 6] opkET 100000 60 7 (opkArgs false)) opk6k38y = true := check_same (Ky := opk6k39y) (Kn := opk6k39n) (i := ⟨0, 2000, []⟩) (by kernel_rfl) (by kernel_rfl) (by kernel_rfl) (.inr opk6h40) (.inr opk6h45)
theorem opk6h46 : DT.leaf.check (okKD Try.prog opkKn opkDer [3, 4, 5, 6] opkET 100000 60 7 (opkArgs false)) opk6k38n = true := check_leaf (by kernel_rfl)
def opk6t38 : DT := .less 8 (1048577) opk6t39 .leaf
theorem opk6h38 : opk6t38.check (okKD Try.prog opkKn opkDer [3, 4, 5, 6] opkET 100000 60 7 (opkArgs false)) opk6k36n = true := check_less (Ky := opk6k38y) (Kn := opk6k38n) (i := ⟨1, 9223372036854775807, []⟩) (by kernel_rfl) (by kernel_rfl) (by kernel_rfl) (.inr opk6h39) (.inr opk6h46)
def opk6t36 : DT := .less 8 (1) .leaf opk6t38
theorem opk6h36 : opk6t36.check (okKD Try.prog opkKn opkDer [3, 4, 5, 6] opkET 100000 60 7 (opkArgs false)) opk6k35y = true := check_less (Ky := opk6k36y) (Kn := opk6k36n) (i := ⟨-9223372036854775808, 9223372036854775807, []⟩) (by kernel_rfl) (by kernel_rfl) (by kernel_rfl) (.inr opk6h37) (.inr opk6h38)
theorem opk6h47 : DT.leaf.check (okKD Try.prog opkKn opkDer [3, 4, 5, 6] opkET 100000 60 7 (opkArgs false)) opk6k35n = true := check_leaf (by kernel_rfl)
def opk6t35 : DT := .less 7 (4) opk6t36 .leaf
theorem opk6h35 : opk6t35.check (okKD Try.prog opkKn opkDer [3, 4, 5, 6] opkET 100000 60 7 (opkArgs false)) opk6k33n = true := check_less (Ky := opk6k35y) (Kn := opk6k35n) (i := ⟨0, 9223372036854775807, []⟩) (by kernel_rfl) (by kernel_rfl) (by kernel_rfl) (.inr opk6h36) (.inr opk6h47)
def opk6t33 : DT := .less 7 (0) .leaf opk6t35
theorem opk6h33 : opk6t33.check (okKD Try.prog opkKn opkDer [3, 4, 5, 6] opkET 100000 60 7 (opkArgs false)) opk6k32y = true := check_less (Ky := opk6k33y) (Kn := opk6k33n) (i := ⟨-9223372036854775808, 9223372036854775807, []⟩) (by kernel_rfl) (by kernel_rfl) (by kernel_rfl) (.inr opk6h34) (.inr opk6h35)
def opk6k48y : KB := opk6k32n.put 0 ⟨2, 2, [6, 1]⟩
def opk6k48n : KB := opk6k32n.put 0 ⟨-9223372036854775808, 9223372036854775807, [2, 6, 1]⟩
def opk6k49y : KB := opk6k48y.put 7 ⟨-9223372036854775808, -1, []⟩
def opk6k49n : KB := opk6k48y.put 7 ⟨0, 9223372036854775807, []⟩
theorem opk6h50 : DT.leaf.check (okKD Try.prog opkKn opkDer [3, 4, 5, 6] opkET 100000 60 7 (opkArgs false)) opk6k49y = true := check_leaf (by kernel_rfl)
def opk6k51y : KB := opk6k49n.put 7 ⟨0, 3, []⟩
def opk6k51n : KB := opk6k49n.put 7 ⟨4, 9223372036854775807, []⟩
def opk6k52y : KB := opk6k51y.put 8 ⟨-9223372036854775808, 0, []⟩
def opk6k52n : KB := opk6k51y.put 8 ⟨1, 9223372036854775807, []⟩
theorem opk6h53 : DT.leaf.check (okKD Try.prog opkKn opkDer [3, 4, 5, 6] opkET 100000 60 7 (opkArgs false)) opk6k52y = true := check_leaf (by kernel_rfl)
def opk6k54y : KB := opk6k52n.put 8 ⟨1, 1048576, []⟩
def opk6k54n : KB := opk6k52n.put 8 ⟨1048577, 9223372036854775807, []⟩
def opk6k55y : KB := opk6k54y.put 1005 ⟨0, 0, []⟩
def opk6k55n : KB := opk6k54y.put 1005 ⟨1, 2000, []⟩
theorem opk6h56 : DT.leaf.check (okKD Try.prog opkKn opkDer [3, 4, 5, 6] opkET 100000 60 7 (opkArgs false)) opk6k55y = true := check_leaf (by kernel_rfl)
def opk6k57y : KB := opk6k55n.put 1005 ⟨1, 16, []⟩
def opk6k57n : KB := opk6k55n.put 1005 ⟨17, 2000, []⟩
def opk6k58y : KB := opk6k57y.put 1006 ⟨0, 0, []⟩
def opk6k58n : KB := opk6k57y.put 1006 ⟨1, 2000, []⟩
theorem opk6h59 : DT.leaf.check (okKD Try.prog opkKn opkDer [3, 4, 5, 6] opkET 100000 60 7 (opkArgs false)) opk6k58y = true := check_leaf (by kernel_rfl)
def opk6k60y : KB := opk6k58n.put 1006 ⟨1, 16, []⟩
def opk6k60n : KB := opk6k58n.put 1006 ⟨17, 2000, []⟩
def opk6k61y : KB := opk6k60y.put 9 ⟨0, 0, []⟩
def opk6k61n : KB := opk6k60y.put 9 ⟨-9223372036854775808, 9223372036854775807, [0]⟩
theorem opk6h62 : DT.leaf.check (okKD Try.prog opkKn opkDer [3, 4, 5, 6] opkET 100000 60 7 (opkArgs false)) opk6k61y = true := check_leaf (by kernel_rfl)
theorem opk6h63 : DT.leaf.check (okKD Try.prog opkKn opkDer [3, 4, 5, 6] opkET 100000 60 7 (opkArgs false)) opk6k61n = true := check_leaf (by kernel_rfl)
def opk6t61 : DT := .same 9 (0) .leaf .leaf
theorem opk6h61 : opk6t61.check (okKD Try.prog opkKn opkDer [3, 4, 5, 6] opkET 100000 60 7 (opkArgs false)) opk6k60y = true := check_same (Ky := opk6k61y) (Kn := opk6k61n) (i := ⟨-9223372036854775808, 9223372036854775807, []⟩) (by kernel_rfl) (by kernel_rfl) (by kernel_rfl) (.inr opk6h62) (.inr opk6h63)
theorem opk6h64 : DT.leaf.check (okKD Try.prog opkKn opkDer [3, 4, 5, 6] opkET 100000 60 7 (opkArgs false)) opk6k60n = true := check_leaf (by kernel_rfl)
def opk6t60 : DT := .less 1006 (17) opk6t61 .leaf
theorem opk6h60 : opk6t60.check (okKD Try.prog opkKn opkDer [3, 4, 5, 6] opkET 100000 60 7 (opkArgs false)) opk6k58n = true := check_less (Ky := opk6k60y) (Kn := opk6k60n) (i := ⟨1, 2000, []⟩) (by kernel_rfl) (by kernel_rfl) (by kernel_rfl) (.inr opk6h61) (.inr opk6h64)
def opk6t58 : DT := .less 1006 (1) .leaf opk6t60
theorem opk6h58 : opk6t58.check (okKD Try.prog opkKn opkDer [3, 4, 5, 6] opkET 100000 60 7 (opkArgs false)) opk6k57y = true := check_less (Ky := opk6k58y) (Kn := opk6k58n) (i := ⟨0, 2000, []⟩) (by kernel_rfl) (by kernel_rfl) (by kernel_rfl) (.inr opk6h59) (.inr opk6h60)
theorem opk6h65 : DT.leaf.check (okKD Try.prog opkKn opkDer [3, 4, 5, 6] opkET 100000 60 7 (opkArgs false)) opk6k57n = true := check_leaf (by kernel_rfl)
def opk6t57 : DT := .less 1005 (17) opk6t58 .leaf
theorem opk6h57 : opk6t57.check (okKD Try.prog opkKn opkDer [3, 4, 5, 6] opkET 100000 60 7 (opkArgs false)) opk6k55n = true := check_less (Ky := opk6k57y) (Kn := opk6k57n) (i := ⟨1, 2000, []⟩) (by kernel_rfl) (by kernel_rfl) (by kernel_rfl) (.inr opk6h58) (.inr opk6h65)
def opk6t55 : DT := .less 1005 (1) .leaf opk6t57
theorem opk6h55 : opk6t55.check (okKD Try.prog opkKn opkDer [3, 4, 5, 6] opkET 100000 60 7 (opkArgs false)) opk6k54y = true := check_less (Ky := opk6k55y) (Kn := opk6k55n) (i := ⟨0, 2000, []⟩) (by kernel_rfl) (by kernel_rfl) (by kernel_rfl) (.inr opk6h56) (.inr opk6h57)
theorem opk6h66 : DT.leaf.check (okKD Try.prog opkKn opkDer [3, 4, 5, 6] opkET 100000 60 7 (opkArgs false)) opk6k54n = true := check_leaf (by kernel_rfl)
def opk6t54 : DT := .less 8 (1048577) opk6t55 .leaf
theorem opk6h54 : opk6t54.check (okKD Try.prog opkKn opkDer [3, 4, 5, 6] opkET 100000 60 7 (opkArgs false)) opk6k52n = true := check_less (Ky := opk6k54y) (Kn := opk6k54n) (i := ⟨1, 9223372036854775807, []⟩) (by kernel_rfl) (by kernel_rfl) (by kernel_rfl) (.inr opk6h55) (.inr opk6h66)
def opk6t52 : DT := .less 8 (1) .leaf opk6t54
theorem opk6h52 : opk6t52.check (okKD Try.prog opkKn opkDer [3, 4, 5, 6] opkET 100000 60 7 (opkArgs false)) opk6k51y = true := check_less (Ky := opk6k52y) (Kn := opk6k52n) (i := ⟨-9223372036854775808, 9223372036854775807, []⟩) (by kernel_rfl) (by kernel_rfl) (by kernel_rfl) (.inr opk6h53) (.inr opk6h54)
theorem opk6h67 : DT.leaf.check (okKD Try.prog opkKn opkDer [3, 4, 5, 6] opkET 100000 60 7 (opkArgs false)) opk6k51n = true := check_leaf (by kernel_rfl)
def opk6t51 : DT := .less 7 (4) opk6t52 .leaf
theorem opk6h51 : opk6t51.check (okKD Try.prog opkKn opkDer [3, 4, 5, 6] opkET 100000 60 7 (opkArgs false)) opk6k49n = true := check_less (Ky := opk6k51y) (Kn := opk6k51n) (i := ⟨0, 9223372036854775807, []⟩) (by kernel_rfl) (by kernel_rfl) (by kernel_rfl) (.inr opk6h52) (.inr opk6h67)
def opk6t49 : DT := .less 7 (0) .leaf opk6t51
theorem opk6h49 : opk6t49.check (okKD Try.prog opkKn opkDer [3, 4, 5, 6] opkET 100000 60 7 (opkArgs false)) opk6k48y = true := check_less (Ky := opk6k49y) (Kn := opk6k49n) (i := ⟨-9223372036854775808, 9223372036854775807, []⟩) (by kernel_rfl) (by kernel_rfl) (by kernel_rfl) (.inr opk6h50) (.inr opk6h51)
def opk6k68y : KB := opk6k48n.put 0 ⟨3, 3, [2, 6, 1]⟩
def opk6k68n : KB := opk6k48n.put 0 ⟨-9223372036854775808, 9223372036854775807, [3, 2, 6, 1]⟩
def opk6k69y : KB := opk6k68y.put 7 ⟨-9223372036854775808, 0, []⟩
def opk6k69n : KB := opk6k68y.put 7 ⟨1, 9223372036854775807, []⟩
theorem opk6h70 : DT.leaf.check (okKD Try.prog opkKn opkDer [3, 4, 5, 6] opkET 100000 60 7 (opkArgs false)) opk6k69y = true := check_leaf (by kernel_rfl)
def opk6k71y : KB := opk6k69n.put 7 ⟨1, 3, []⟩
def opk6k71n : KB := opk6k69n.put 7 ⟨4, 9223372036854775807, []⟩
def opk6k72y : KB := opk6k71y.put 8 ⟨-9223372036854775808, 0, []⟩
def opk6k72n : KB := opk6k71y.put 8 ⟨1, 9223372036854775807, []⟩
theorem opk6h73 : DT.leaf.check (okKD Try.prog opkKn opkDer [3, 4, 5, 6] opkET 100000 60 7 (opkArgs false)) opk6k72y = true := check_leaf (by kernel_rfl)
def opk6k74y : KB := opk6k72n.put 8 ⟨1, 1048576, []⟩
def opk6k74n : KB := opk6k72n.put 8 ⟨1048577, 9223372036854775807, []⟩
def opk6k75y : KB := opk6k74y.put 9 ⟨-9223372036854775808, 0, []⟩
def opk6k75n : KB := opk6k74y.put 9 ⟨1, 9223372036854775807, []⟩
theorem opk6h76 : DT.leaf.check (okKD Try.prog opkKn opkDer [3, 4, 5, 6] opkET 100000 60 7 (opkArgs false)) opk6k75y = true := check_leaf (by kernel_rfl)
def opk6k77y : KB := opk6k75n.put 9 ⟨1, 1024, []⟩
def opk6k77n : KB := opk6k75n.put 9 ⟨1025, 9223372036854775807, []⟩
def opk6k78y : KB := opk6k77y.put 1005 ⟨0, 0, []⟩
def opk6k78n : KB := opk6k77y.put 1005 ⟨1, 2000, []⟩
def opk6k79y : KB := opk6k78y.put 1006 ⟨0, 0, []⟩
def opk6k79n : KB := opk6k78y.put 1006 ⟨1, 2000, []⟩
theorem opk6h80 : DT.leaf.check (okKD Try.prog opkKn opkDer [3, 4, 5, 6] opkET 100000 60 7 (opkArgs false)) opk6k79y = true := check_leaf (by kernel_rfl)
theorem opk6h81 : DT.leaf.check (okKD Try.prog opkKn opkDer [3, 4, 5, 6] opkET 100000 60 7 (opkArgs false)) opk6k79n = true := check_leaf (by kernel_rfl)
def opk6t79 : DT := .same 1006 (0) .leaf .leaf
theorem opk6h79 : opk6t79.check (okKD Try.prog opkKn opkDer [3, 4, 5, 6] opkET 100000 60 7 (opkArgs false)) opk6k78y = true := check_same (Ky := opk6k79y) (Kn := opk6k79n) (i := ⟨0, 2000, []⟩) (by kernel_rfl) (by kernel_rfl) (by kernel_rfl) (.inr opk6h80) (.inr opk6h81)
theorem opk6h82 : DT.leaf.check (okKD Try.prog opkKn opkDer [3, 4, 5, 6] opkET 100000 60 7 (opkArgs false)) opk6k78n = true := check_leaf (by kernel_rfl)
def opk6t78 : DT := .same 1005 (0) opk6t79 .leaf
theorem opk6h78 : opk6t78.check (okKD Try.prog opkKn opkDer [3, 4, 5, 6] opkET 100000 60 7 (opkArgs false)) opk6k77y = true := check_same (Ky := opk6k78y) (Kn := opk6k78n) (i := ⟨0, 2000, []⟩) (by kernel_rfl) (by kernel_rfl) (by kernel_rfl) (.inr opk6h79) (.inr opk6h82)
theorem opk6h83 : DT.leaf.check (okKD Try.prog opkKn opkDer [3, 4, 5, 6] opkET 100000 60 7 (opkArgs false)) opk6k77n = true := check_leaf (by kernel_rfl)
def opk6t77 : DT := .less 9 (1025) opk6t78 .leaf
theorem opk6h77 : opk6t77.check (okKD Try.prog opkKn opkDer [3, 4, 5, 6] opkET 100000 60 7 (opkArgs false)) opk6k75n = true := check_less (Ky := opk6k77y) (Kn := opk6k77n) (i := ⟨1, 9223372036854775807, []⟩) (by kernel_rfl) (by kernel_rfl) (by kernel_rfl) (.inr opk6h78) (.inr opk6h83)
def opk6t75 : DT := .less 9 (1) .leaf opk6t77
theorem opk6h75 : opk6t75.check (okKD Try.prog opkKn opkDer [3, 4, 5, 6] opkET 100000 60 7 (opkArgs false)) opk6k74y = true := check_less (Ky := opk6k75y) (Kn := opk6k75n) (i := ⟨-9223372036854775808, 9223372036854775807, []⟩) (by kernel_rfl) (by kernel_rfl) (by kernel_rfl) (.inr opk6h76) (.inr opk6h77)
theorem opk6h84 : DT.leaf.check (okKD Try.prog opkKn opkDer [3, 4, 5, 6] opkET 100000 60 7 (opkArgs false)) opk6k74n = true := check_leaf (by kernel_rfl)
def opk6t74 : DT := .less 8 (1048577) opk6t75 .leaf
theorem opk6h74 : opk6t74.check (okKD Try.prog opkKn opkDer [3, 4, 5, 6] opkET 100000 60 7 (opkArgs false)) opk6k72n = true := check_less (Ky := opk6k74y) (Kn := opk6k74n) (i := ⟨1, 9223372036854775807, []⟩) (by kernel_rfl) (by kernel_rfl) (by kernel_rfl) (.inr opk6h75) (.inr opk6h84)
def opk6t72 : DT := .less 8 (1) .leaf opk6t74
theorem opk6h72 : opk6t72.check (okKD Try.prog opkKn opkDer [3, 4, 5, 6] opkET 100000 60 7 (opkArgs false)) opk6k71y = true := check_less (Ky := opk6k72y) (Kn := opk6k72n) (i := ⟨-9223372036854775808, 9223372036854775807, []⟩) (by kernel_rfl) (by kernel_rfl) (by kernel_rfl) (.inr opk6h73) (.inr opk6h74)
theorem opk6h85 : DT.leaf.check (okKD Try.prog opkKn opkDer [3, 4, 5, 6] opkET 100000 60 7 (opkArgs false)) opk6k71n = true := check_leaf (by kernel_rfl)
def opk6t71 : DT := .less 7 (4) opk6t72 .leaf
theorem opk6h71 : opk6t71.check (okKD Try.prog opkKn opkDer [3, 4, 5, 6] opkET 100000 60 7 (opkArgs false)) opk6k69n = true := check_less (Ky := opk6k71y) (Kn := opk6k71n) (i := ⟨1, 9223372036854775807, []⟩) (by kernel_rfl) (by kernel_rfl) (by kernel_rfl) (.inr opk6h72) (.inr opk6h85)
def opk6t69 : DT := .less 7 (1) .leaf opk6t71
theorem opk6h69 : opk6t69.check (okKD Try.prog opkKn opkDer [3, 4, 5, 6] opkET 100000 60 7 (opkArgs false)) opk6k68y = true := check_less (Ky := opk6k69y) (Kn := opk6k69n) (i := ⟨-9223372036854775808, 9223372036854775807, []⟩) (by kernel_rfl) (by kernel_rfl) (by kernel_rfl) (.inr opk6h70) (.inr opk6h71)
def opk6k86y : KB := opk6k68n.put 0 ⟨4, 4, [3, 2, 6, 1]⟩
def opk6k86n : KB := opk6k68n.put 0 ⟨-9223372036854775808, 9223372036854775807, [4, 3, 2, 6, 1]⟩
theorem opk6h87 : DT.leaf.check (okKD Try.prog opkKn opkDer [3, 4, 5, 6] opkET 100000 60 7 (opkArgs false)) opk6k86y = true := check_leaf (by kernel_rfl)
def opk6k88y : KB := opk6k86n.put 0 ⟨5, 5, [4, 3, 2, 6, 1]⟩
def opk6k88n : KB := opk6k86n.put 0 ⟨-9223372036854775808, 9223372036854775807, [5, 4, 3, 2, 6, 1]⟩
def opk6k89y : KB := opk6k88y.put 1005 ⟨0, 0, []⟩
def opk6k89n : KB := opk6k88y.put 1005 ⟨1, 2000, []⟩
def opk6k90y : KB := opk6k89y.put 1006 ⟨0, 0, []⟩
def opk6k90n : KB := opk6k89y.put 1006 ⟨1, 2000, []⟩
def opk6k91y : KB := opk6k90y.put 7 ⟨0, 0, []⟩
def opk6k91n : KB := opk6k90y.put 7 ⟨-9223372036854775808, 9223372036854775807, [0]⟩
def opk6k92y : KB := opk6k91y.put 8 ⟨0, 0, []⟩
def opk6k92n : KB := opk6k91y.put 8 ⟨-9223372036854775808, 9223372036854775807, [0]⟩
def opk6k93y : KB := opk6k92y.put 9 ⟨0, 0, []⟩
def opk6k93n : KB := opk6k92y.put 9 ⟨-9223372036854775808, 9223372036854775807, [0]⟩
theorem opk6h94 : DT.leaf.check (okKD Try.prog opkKn opkDer [3, 4, 5, 6] opkET 100000 60 7 (opkArgs false)) opk6k93y = true := check_leaf (by kernel_rfl)
theorem opk6h95 : DT.leaf.check (okKD Try.prog opkKn opkDer [3, 4, 5, 6] opkET 100000 60 7 (opkArgs false)) opk6k93n = true := check_leaf (by kernel_rfl)
def opk6t93 : DT := .same 9 (0) .leaf .leaf
theorem opk6h93 : opk6t93.check (okKD Try.prog opkKn opkDer [3, 4, 5, 6] opkET 100000 60 7 (opkArgs false)) opk6k92y = true := check_same (Ky := opk6k93y) (Kn := opk6k93n) (i := ⟨-9223372036854775808, 9223372036854775807, []⟩) (by kernel_rfl) (by kernel_rfl) (by kernel_rfl) (.inr opk6h94) (.inr opk6h95)
theorem opk6h96 : DT.leaf.check (okKD Try.prog opkKn opkDer [3, 4, 5, 6] opkET 100000 60 7 (opkArgs false)) opk6k92n = true := check_leaf (by kernel_rfl)
def opk6t92 : DT := .same 8 (0) opk6t93 .leaf
theorem opk6h92 : opk6t92.check (okKD Try.prog opkKn opkDer [3, 4, 5, 6] opkET 100000 60 7 (opkArgs false)) opk6k91y = true := check_same (Ky := opk6k92y) (Kn := opk6k92n) (i := ⟨-9223372036854775808, 9223372036854775807, []⟩) (by kernel_rfl) (by kernel_rfl) (by kernel_rfl) (.inr opk6h93) (.inr opk6h96)
theorem opk6h97 : DT.leaf.check (okKD Try.prog opkKn opkDer [3, 4, 5, 6] opkET 100000 60 7 (opkArgs false)) opk6k91n = true := check_leaf (by kernel_rfl)
def opk6t91 : DT := .same 7 (0) opk6t92 .leaf
theorem opk6h91 : opk6t91.check (okKD Try.prog opkKn opkDer [3, 4, 5, 6] opkET 100000 60 7 (opkArgs false)) opk6k90y = true := check_same (Ky := opk6k91y) (Kn := opk6k91n) (i := ⟨-9223372036854775808, 9223372036854775807, []⟩) (by kernel_rfl) (by kernel_rfl) (by kernel_rfl) (.inr opk6h92) (.inr opk6h97)
theorem opk6h98 : DT.leaf.check (okKD Try.prog opkKn opkDer [3, 4, 5, 6] opkET 100000 60 7 (opkArgs false)) opk6k90n = true := check_leaf (by kernel_rfl)
def opk6t90 : DT := .same 1006 (0) opk6t91 .leaf
theorem opk6h90 : opk6t90.check (okKD Try.prog opkKn opkDer [3, 4, 5, 6] opkET 100000 60 7 (opkArgs false)) opk6k89y = true := check_same (Ky := opk6k90y) (Kn := opk6k90n) (i := ⟨0, 2000, []⟩) (by kernel_rfl) (by kernel_rfl) (by kernel_rfl) (.inr opk6h91) (.inr opk6h98)
theorem opk6h99 : DT.leaf.check (okKD Try.prog opkKn opkDer [3, 4, 5, 6] opkET 100000 60 7 (opkArgs false)) opk6k89n = true := check_leaf (by kernel_rfl)
def opk6t89 : DT := .same 1005 (0) opk6t90 .leaf
theorem opk6h89 : opk6t89.check (okKD Try.prog opkKn opkDer [3, 4, 5, 6] opkET 100000 60 7 (opkArgs false)) opk6k88y = true := check_same (Ky := opk6k89y) (Kn := opk6k89n) (i := ⟨0, 2000, []⟩) (by kernel_rfl) (by kernel_rfl) (by kernel_rfl) (.inr opk6h90) (.inr opk6h99)
def opk6k100y : KB := opk6k88n.put 0 ⟨7, 7, [5, 4, 3, 2, 6, 1]⟩
def opk6k100n : KB := opk6k88n.put 0 ⟨-9223372036854775808, 9223372036854775807, [7, 5, 4, 3, 2, 6, 1]⟩
def opk6k101y : KB := opk6k100y.put 1005 ⟨0, 0, []⟩
def opk6k101n : KB := opk6k100y.put 1005 ⟨1, 2000, []⟩
def opk6k102y : KB := opk6k101y.put 1006 ⟨0, 0, []⟩
def opk6k102n : KB := opk6k101y.put 1006 ⟨1, 2000, []⟩
def opk6k103y : KB := opk6k102y.put 7 ⟨0, 0, []⟩
def opk6k103n : KB := opk6k102y.put 7 ⟨-9223372036854775808, 9223372036854775807, [0]⟩
def opk6k104y : KB := opk6k103y.put 8 ⟨0, 0, []⟩
def opk6k104n : KB := opk6k103y.put 8 ⟨-9223372036854775808, 9223372036854775807, [0]⟩
def opk6k105y : KB := opk6k104y.put 9 ⟨0, 0, []⟩
def opk6k105n : KB := opk6k104y.put 9 ⟨-9223372036854775808, 9223372036854775807, [0]⟩
theorem opk6h106 : DT.leaf.check (okKD Try.prog opkKn opkDer [3, 4, 5, 6] opkET 100000 60 7 (opkArgs false)) opk6k105y = true := check_leaf (by kernel_rfl)
theorem opk6h107 : DT.leaf.check (okKD Try.prog opkKn opkDer [3, 4, 5, 6] opkET 100000 60 7 (opkArgs false)) opk6k105n = true := check_leaf (by kernel_rfl)
def opk6t105 : DT := .same 9 (0) .leaf .leaf
theorem opk6h105 : opk6t105.check (okKD Try.prog opkKn opkDer [3, 4, 5, 6] opkET 100000 60 7 (opkArgs false)) opk6k104y = true := check_same (Ky := opk6k105y) (Kn := opk6k105n) (i := ⟨-9223372036854775808, 9223372036854775807, []⟩) (by kernel_rfl) (by kernel_rfl) (by kernel_rfl) (.inr opk6h106) (.inr opk6h107)
theorem opk6h108 : DT.leaf.check (okKD Try.prog opkKn opkDer [3, 4, 5, 6] opkET 100000 60 7 (opkArgs false)) opk6k104n = true := check_leaf (by kernel_rfl)
def opk6t104 : DT := .same 8 (0) opk6t105 .leaf
theorem opk6h104 : opk6t104.check (okKD Try.prog opkKn opkDer [3, 4, 5, 6] opkET 100000 60 7 (opkArgs false)) opk6k103y = true := check_same (Ky := opk6k104y) (Kn := opk6k104n) (i := ⟨-9223372036854775808, 9223372036854775807, []⟩) (by kernel_rfl) (by kernel_rfl) (by kernel_rfl) (.inr opk6h105) (.inr opk6h108)
theorem opk6h109 : DT.leaf.check (okKD Try.prog opkKn opkDer [3, 4, 5, 6] opkET 100000 60 7 (opkArgs false)) opk6k103n = true := check_leaf (by kernel_rfl)
def opk6t103 : DT := .same 7 (0) opk6t104 .leaf
theorem opk6h103 : opk6t103.check (okKD Try.prog opkKn opkDer [3, 4, 5, 6] opkET 100000 60 7 (opkArgs false)) opk6k102y = true := check_same (Ky := opk6k103y) (Kn := opk6k103n) (i := ⟨-9223372036854775808, 9223372036854775807, []⟩) (by kernel_rfl) (by kernel_rfl) (by kernel_rfl) (.inr opk6h104) (.inr opk6h109)
theorem opk6h110 : DT.leaf.check (okKD Try.prog opkKn opkDer [3, 4, 5, 6] opkET 100000 60 7 (opkArgs false)) opk6k102n = true := check_leaf (by kernel_rfl)
def opk6t102 : DT := .same 1006 (0) opk6t103 .leaf
theorem opk6h102 : opk6t102.check (okKD Try.prog opkKn opkDer [3, 4, 5, 6] opkET 100000 60 7 (opkArgs false)) opk6k101y = true := check_same (Ky := opk6k102y) (Kn := opk6k102n) (i := ⟨0, 2000, []⟩) (by kernel_rfl) (by kernel_rfl) (by kernel_rfl) (.inr opk6h103) (.inr opk6h110)
theorem opk6h111 : DT.leaf.check (okKD Try.prog opkKn opkDer [3, 4, 5, 6] opkET 100000 60 7 (opkArgs false)) opk6k101n = true := check_leaf (by kernel_rfl)
def opk6t101 : DT := .same 1005 (0) opk6t102 .leaf
theorem opk6h101 : opk6t101.check (okKD Try.prog opkKn opkDer [3, 4, 5, 6] opkET 100000 60 7 (opkArgs false)) opk6k100y = true := check_same (Ky := opk6k101y) (Kn := opk6k101n) (i := ⟨0, 2000, []⟩) (by kernel_rfl) (by kernel_rfl) (by kernel_rfl) (.inr opk6h102) (.inr opk6h111)
theorem opk6h112 : DT.leaf.check (okKD Try.prog opkKn opkDer [3, 4, 5, 6] opkET 100000 60 7 (opkArgs false)) opk6k100n = true := check_leaf (by kernel_rfl)
def opk6t100 : DT := .same 0 (7) opk6t101 .leaf
theorem opk6h100 : opk6t100.check (okKD Try.prog opkKn opkDer [3, 4, 5, 6] opkET 100000 60 7 (opkArgs false)) opk6k88n = true := check_same (Ky := opk6k100y) (Kn := opk6k100n) (i := ⟨-9223372036854775808, 9223372036854775807, [5, 4, 3, 2, 6, 1]⟩) (by kernel_rfl) (by kernel_rfl) (by kernel_rfl) (.inr opk6h101) (.inr opk6h112)
def opk6t88 : DT := .same 0 (5) opk6t89 opk6t100
theorem opk6h88 : opk6t88.check (okKD Try.prog opkKn opkDer [3, 4, 5, 6] opkET 100000 60 7 (opkArgs false)) opk6k86n = true := check_same (Ky := opk6k88y) (Kn := opk6k88n) (i := ⟨-9223372036854775808, 9223372036854775807, [4, 3, 2, 6, 1]⟩) (by kernel_rfl) (by kernel_rfl) (by kernel_rfl) (.inr opk6h89) (.inr opk6h100)
def opk6t86 : DT := .same 0 (4) .leaf opk6t88
theorem opk6h86 : opk6t86.check (okKD Try.prog opkKn opkDer [3, 4, 5, 6] opkET 100000 60 7 (opkArgs false)) opk6k68n = true := check_same (Ky := opk6k86y) (Kn := opk6k86n) (i := ⟨-9223372036854775808, 9223372036854775807, [3, 2, 6, 1]⟩) (by kernel_rfl) (by kernel_rfl) (by kernel_rfl) (.inr opk6h87) (.inr opk6h88)
def opk6t68 : DT := .same 0 (3) opk6t69 opk6t86
theorem opk6h68 : opk6t68.check (okKD Try.prog opkKn opkDer [3, 4, 5, 6] opkET 100000 60 7 (opkArgs false)) opk6k48n = true := check_same (Ky := opk6k68y) (Kn := opk6k68n) (i := ⟨-9223372036854775808, 9223372036854775807, [2, 6, 1]⟩) (by kernel_rfl) (by kernel_rfl) (by kernel_rfl) (.inr opk6h69) (.inr opk6h86)
def opk6t48 : DT := .same 0 (2) opk6t49 opk6t68
theorem opk6h48 : opk6t48.check (okKD Try.prog opkKn opkDer [3, 4, 5, 6] opkET 100000 60 7 (opkArgs false)) opk6k32n = true := check_same (Ky := opk6k48y) (Kn := opk6k48n) (i := ⟨-9223372036854775808, 9223372036854775807, [6, 1]⟩) (by kernel_rfl) (by kernel_rfl) (by kernel_rfl) (.inr opk6h49) (.inr opk6h68)
def opk6t32 : DT := .same 0 (6) opk6t33 opk6t48
theorem opk6h32 : opk6t32.check (okKD Try.prog opkKn opkDer [3, 4, 5, 6] opkET 100000 60 7 (opkArgs false)) opk6k16n = true := check_same (Ky := opk6k32y) (Kn := opk6k32n) (i := ⟨-9223372036854775808, 9223372036854775807, [1]⟩) (by kernel_rfl) (by kernel_rfl) (by kernel_rfl) (.inr opk6h33) (.inr opk6h48)
def opk6t16 : DT := .same 0 (1) opk6t17 opk6t32
theorem opk6h16 : opk6t16.check (okKD Try.prog opkKn opkDer [3, 4, 5, 6] opkET 100000 60 7 (opkArgs false)) opk6k15y = true := check_same (Ky := opk6k16y) (Kn := opk6k16n) (i := ⟨-9223372036854775808, 9223372036854775807, []⟩) (by kernel_rfl) (by kernel_rfl) (by kernel_rfl) (.inr opk6h17) (.inr opk6h32)
theorem opk6h113 : DT.leaf.check (okKD Try.prog opkKn opkDer [3, 4, 5, 6] opkET 100000 60 7 (opkArgs false)) opk6k15n = true := check_leaf (by kernel_rfl)
def opk6t15 : DT := .less 1004 (17) opk6t16 .leaf
theorem opk6h15 : opk6t15.check (okKD Try.prog opkKn opkDer [3, 4, 5, 6] opkET 100000 60 7 (opkArgs false)) opk6k13n = true := check_less (Ky := opk6k15y) (Kn := opk6k15n) (i := ⟨1, 2000, []⟩) (by kernel_rfl) (by kernel_rfl) (by kernel_rfl) (.inr opk6h16) (.inr opk6h113)
def opk6t13 : DT := .less 1004 (1) .leaf opk6t15
theorem opk6h13 : opk6t13.check (okKD Try.prog opkKn opkDer [3, 4, 5, 6] opkET 100000 60 7 (opkArgs false)) opk6k12y = true := check_less (Ky := opk6k13y) (Kn := opk6k13n) (i := ⟨0, 2000, []⟩) (by kernel_rfl) (by kernel_rfl) (by kernel_rfl) (.inr opk6h14) (.inr opk6h15)
theorem opk6h114 : DT.leaf.check (okKD Try.prog opkKn opkDer [3, 4, 5, 6] opkET 100000 60 7 (opkArgs false)) opk6k12n = true := check_leaf (by kernel_rfl)
def opk6t12 : DT := .less 1003 (17) opk6t13 .leaf
theorem opk6h12 : opk6t12.check (okKD Try.prog opkKn opkDer [3, 4, 5, 6] opkET 100000 60 7 (opkArgs false)) opk6k10n = true := check_less (Ky := opk6k12y) (Kn := opk6k12n) (i := ⟨1, 2000, []⟩) (by kernel_rfl) (by kernel_rfl) (by kernel_rfl) (.inr opk6h13) (.inr opk6h114)
def opk6t10 : DT := .less 1003 (1) .leaf opk6t12
theorem opk6h10 : opk6t10.check (okKD Try.prog opkKn opkDer [3, 4, 5, 6] opkET 100000 60 7 (opkArgs false)) opk6k9y = true := check_less (Ky := opk6k10y) (Kn := opk6k10n) (i := ⟨0, 2000, []⟩) (by kernel_rfl) (by kernel_rfl) (by kernel_rfl) (.inr opk6h11) (.inr opk6h12)
theorem opk6h115 : DT.leaf.check (okKD Try.prog opkKn opkDer [3, 4, 5, 6] opkET 100000 60 7 (opkArgs false)) opk6k9n = true := check_leaf (by kernel_rfl)
def opk6t9 : DT := .less 2 (1099511627777) opk6t10 .leaf
theorem opk6h9 : opk6t9.check (okKD Try.prog opkKn opkDer [3, 4, 5, 6] opkET 100000 60 7 (opkArgs false)) opk6k7n = true := check_less (Ky := opk6k9y) (Kn := opk6k9n) (i := ⟨1, 9223372036854775807, []⟩) (by kernel_rfl) (by kernel_rfl) (by kernel_rfl) (.inr opk6h10) (.inr opk6h115)
def opk6t7 : DT := .less 2 (1) .leaf opk6t9
theorem opk6h7 : opk6t7.check (okKD Try.prog opkKn opkDer [3, 4, 5, 6] opkET 100000 60 7 (opkArgs false)) opk6k6y = true := check_less (Ky := opk6k7y) (Kn := opk6k7n) (i := ⟨-9223372036854775808, 9223372036854775807, []⟩) (by kernel_rfl) (by kernel_rfl) (by kernel_rfl) (.inr opk6h8) (.inr opk6h9)
theorem opk6h116 : DT.leaf.check (okKD Try.prog opkKn opkDer [3, 4, 5, 6] opkET 100000 60 7 (opkArgs false)) opk6k6n = true := check_leaf (by kernel_rfl)
def opk6t6 : DT := .less 1 (1048577) opk6t7 .leaf
theorem opk6h6 : opk6t6.check (okKD Try.prog opkKn opkDer [3, 4, 5, 6] opkET 100000 60 7 (opkArgs false)) opk6k4n = true := check_less (Ky := opk6k6y) (Kn := opk6k6n) (i := ⟨1, 9223372036854775807, []⟩) (by kernel_rfl) (by kernel_rfl) (by kernel_rfl) (.inr opk6h7) (.inr opk6h116)
def opk6t4 : DT := .less 1 (1) .leaf opk6t6
theorem opk6h4 : opk6t4.check (okKD Try.prog opkKn opkDer [3, 4, 5, 6] opkET 100000 60 7 (opkArgs false)) opk6k3y = true := check_less (Ky := opk6k4y) (Kn := opk6k4n) (i := ⟨-9223372036854775808, 9223372036854775807, []⟩) (by kernel_rfl) (by kernel_rfl) (by kernel_rfl) (.inr opk6h5) (.inr opk6h6)
theorem opk6h117 : DT.leaf.check (okKD Try.prog opkKn opkDer [3, 4, 5, 6] opkET 100000 60 7 (opkArgs false)) opk6k3n = true := check_leaf (by kernel_rfl)
def opk6t3 : DT := .less 1006 (2001) opk6t4 .leaf
theorem opk6h3 : opk6t3.check (okKD Try.prog opkKn opkDer [3, 4, 5, 6] opkET 100000 60 7 (opkArgs false)) opk6k2y = true := check_less (Ky := opk6k3y) (Kn := opk6k3n) (i := ⟨0, 9223372036854775807, []⟩) (by kernel_rfl) (by kernel_rfl) (by kernel_rfl) (.inr opk6h4) (.inr opk6h117)
theorem opk6h118 : DT.leaf.check (okKD Try.prog opkKn opkDer [3, 4, 5, 6] opkET 100000 60 7 (opkArgs false)) opk6k2n = true := check_leaf (by kernel_rfl)
def opk6t2 : DT := .less 1005 (2001) opk6t3 .leaf
theorem opk6h2 : opk6t2.check (okKD Try.prog opkKn opkDer [3, 4, 5, 6] opkET 100000 60 7 (opkArgs false)) opk6k1y = true := check_less (Ky := opk6k2y) (Kn := opk6k2n) (i := ⟨0, 9223372036854775807, []⟩) (by kernel_rfl) (by kernel_rfl) (by kernel_rfl) (.inr opk6h3) (.inr opk6h118)
theorem opk6h119 : DT.leaf.check (okKD Try.prog opkKn opkDer [3, 4, 5, 6] opkET 100000 60 7 (opkArgs false)) opk6k1n = true := check_leaf (by kernel_rfl)
def opk6t1 : DT := .less 1004 (2001) opk6t2 .leaf
theorem opk6h1 : opk6t1.check (okKD Try.prog opkKn opkDer [3, 4, 5, 6] opkET 100000 60 7 (opkArgs false)) opk6k0y = true := check_less (Ky := opk6k1y) (Kn := opk6k1n) (i := ⟨0, 9223372036854775807, []⟩) (by kernel_rfl) (by kernel_rfl) (by kernel_rfl) (.inr opk6h2) (.inr opk6h119)
theorem opk6h120 : DT.leaf.check (okKD Try.prog opkKn opkDer [3, 4, 5, 6] opkET 100000 60 7 (opkArgs false)) opk6k0n = true := check_leaf (by kernel_rfl)
def opk6t0 : DT := .less 1003 (2001) opk6t1 .leaf
theorem opk6h0 : opk6t0.check (okKD Try.prog opkKn opkDer [3, 4, 5, 6] opkET 100000 60 7 (opkArgs false)) opkKB6 = true := check_less (Ky := opk6k0y) (Kn := opk6k0n) (i := ⟨0, 9223372036854775807, []⟩) (by kernel_rfl) (by kernel_rfl) (by kernel_rfl) (.inr opk6h1) (.inr opk6h120)
theorem opkCheck6 : opk6t0.check (okKD Try.prog opkKn opkDer [3, 4, 5, 6] opkET 100000 60 7 (opkArgs false)) (opkKB ⟨-9223372036854775808, -1, []⟩ opkBig) = true := opk6h0
end Go.Proofs.Ytliljfncbljfpaa
