/- OpKinds: tree 0. -/
import Derived.Test.YtliljfncbljfpaaOpKa
import Derived.ProofKit
namespace Go.Proofs.Ytliljfncbljfpaa
open Go.RowKit
set_option linter.unusedVariables false
set_option linter.unusedSimpArgs false
set_option maxRecDepth 100000

def opkKB0 : KB := opkKB ⟨0, 0, []⟩ ⟨1099511627776, 1099511627776, []⟩
def opk0k0y : KB := opkKB0.put 1003 ⟨0, 2000, []⟩
def opk0k0n : KB := opkKB0.put 1003 ⟨2001, 9223372036854775807, []⟩
def opk0k1y : KB := opk0k0y.put 1004 ⟨0, 2000, []⟩
def opk0k1n : KB := opk0k0y.put 1004 ⟨2001, 9223372036854775807, []⟩
def opk0k2y : KB := opk0k1y.put 1005 ⟨0, 2000, []⟩
def opk0k2n : KB := opk0k1y.put 1005 ⟨2001, 9223372036854775807, []⟩
def opk0k3y : KB := opk0k2y.put 1006 ⟨0, 2000, []⟩
def opk0k3n : KB := opk0k2y.put 1006 ⟨2001, 9223372036854775807, []⟩
def opk0k4y : KB := opk0k3y.put 1 ⟨-9223372036854775808, 0, []⟩
def opk0k4n : KB := opk0k3y.put 1 ⟨1, 9223372036854775807, []⟩
theorem opk0h5 : DT.leaf.check (okKD Try.prog opkKn opkDer [3, 4, 5, 6] opkET 100000 60 7 (opkArgs true)) opk0k4y = true := check_leaf (by kernel_rfl)
def opk0k6y : KB := opk0k4n.put 1 ⟨1, 1048576, []⟩
def opk0k6n : KB := opk0k4n.put 1 ⟨1048577, 9223372036854775807, []⟩
def opk0k7y : KB := opk0k6y.put 2 ⟨-9223372036854775808, 0, []⟩
def opk0k7n : KB := opk0k6y.put 2 ⟨1, 9223372036854775807, []⟩
theorem opk0h8 : DT.leaf.check (okKD Try.prog opkKn opkDer [3, 4, 5, 6] opkET 100000 60 7 (opkArgs true)) opk0k7y = true := check_leaf (by kernel_rfl)
def opk0k9y : KB := opk0k7n.put 2 ⟨1, 1099511627776, []⟩
def opk0k9n : KB := opk0k7n.put 2 ⟨1099511627777, 9223372036854775807, []⟩
def opk0k10y : KB := opk0k9y.put 1003 ⟨0, 0, []⟩
def opk0k10n : KB := opk0k9y.put 1003 ⟨1, 2000, []⟩
theorem opk0h11 : DT.leaf.check (okKD Try.prog opkKn opkDer [3, 4, 5, 6] opkET 100000 60 7 (opkArgs true)) opk0k10y = true := check_leaf (by kernel_rfl)
def opk0k12y : KB := opk0k10n.put 1003 ⟨1, 16, []⟩
def opk0k12n : KB := opk0k10n.put 1003 ⟨17, 2000, []⟩
def opk0k13y : KB := opk0k12y.put 1004 ⟨0, 0, []⟩
def opk0k13n : KB := opk0k12y.put 1004 ⟨1, 2000, []⟩
theorem opk0h14 : DT.leaf.check (okKD Try.prog opkKn opkDer [3, 4, 5, 6] opkET 100000 60 7 (opkArgs true)) opk0k13y = true := check_leaf (by kernel_rfl)
def opk0k15y : KB := opk0k13n.put 1004 ⟨1, 16, []⟩
def opk0k15n : KB := opk0k13n.put 1004 ⟨17, 2000, []⟩
def opk0k16y : KB := opk0k15y.put 0 ⟨1, 1, []⟩
def opk0k16n : KB := opk0k15y.put 0 ⟨-9223372036854775808, 9223372036854775807, [1]⟩
def opk0k17y : KB := opk0k16y.put 7 ⟨-9223372036854775808, -1, []⟩
def opk0k17n : KB := opk0k16y.put 7 ⟨0, 9223372036854775807, []⟩
theorem opk0h18 : DT.leaf.check (okKD Try.prog opkKn opkDer [3, 4, 5, 6] opkET 100000 60 7 (opkArgs true)) opk0k17y = true := check_leaf (by kernel_rfl)
def opk0k19y : KB := opk0k17n.put 7 ⟨0, 3, []⟩
def opk0k19n : KB := opk0k17n.put 7 ⟨4, 9223372036854775807, []⟩
def opk0k20y : KB := opk0k19y.put 8 ⟨-9223372036854775808, 0, []⟩
def opk0k20n : KB := opk0k19y.put 8 ⟨1, 9223372036854775807, []⟩
theorem opk0h21 : DT.leaf.check (okKD Try.prog opkKn opkDer [3, 4, 5, 6] opkET 100000 60 7 (opkArgs true)) opk0k20y = true := check_leaf (by kernel_rfl)
def opk0k22y : KB := opk0k20n.put 8 ⟨1, 1048576, []⟩
def opk0k22n : KB := opk0k20n.put 8 ⟨1048577, 9223372036854775807, []⟩
def opk0k23y : KB := opk0k22y.put 1005 ⟨0, 0, []⟩
def opk0k23n : KB := opk0k22y.put 1005 ⟨1, 2000, []⟩
def opk0k24y : KB := opk0k23y.put 1006 ⟨0, 0, []⟩
def opk0k24n : KB := opk0k23y.put 1006 ⟨1, 2000, []⟩
def opk0k25y : KB := opk0k24y.put 9 ⟨0, 0, []⟩
def opk0k25n : KB := opk0k24y.put 9 ⟨-9223372036854775808, 9223372036854775807, [0]⟩
theorem opk0h26 : DT.leaf.check (okKD Try.prog opkKn opkDer [3, 4, 5, 6] opkET 100000 60 7 (opkArgs true)) opk0k25y = true := check_leaf (by kernel_rfl)
theorem opk0h27 : DT.leaf.check (okKD Try.prog opkKn opkDer [3, 4, 5, 6] opkET 100000 60 7 (opkArgs true)) opk0k25n = true := check_leaf (by kernel_rfl)
def opk0t25 : DT := .same 9 (0) .leaf .leaf
theorem opk0h25 : opk0t25.check (okKD Try.prog opkKn opkDer [3, 4, 5, 6] opkET 100000 60 7 (opkArgs true)) opk0k24y = true := check_same (Ky := opk0k25y) (Kn := opk0k25n) (i := ⟨-9223372036854775808, 9223372036854775807, []⟩) (by kernel_rfl) (by kernel_rfl) (by kernel_rfl) (.inr opk0h26) (.inr opk0h27)
theorem opk0h28 : DT.leaf.check (okKD Try.prog opkKn opkDer [3, 4, 5, 6] opkET 100000 60 7 (opkArgs true)) opk0k24n = true := check_leaf (by kernel_rfl)
def opk0t24 : DT := .same 1006 (0) opk0t25 .leaf
theorem opk0h24 : opk0t24.check (okKD Try.prog opkKn opkDer [3, 4, 5, 6] opkET 100000 60 7 (opkArgs true)) opk0k23y = true := check_same (Ky := opk0k24y) (Kn := opk0k24n) (i := ⟨0, 2000, []⟩) (by kernel_rfl) (by kernel_rfl) (by kernel_rfl) (.inr opk0h25) (.inr opk0h28)
theorem opk0h29 : DT.leaf.check (okKD Try.prog opkKn opkDer [3, 4, 5, 6] opkET 100000 60 7 (opkArgs true)) opk0k23n = true := check_leaf (by kernel_rfl)
def opk0t23 : DT := .same 1005 (0) opk0t24 .leaf
theorem opk0h23 : opk0t23.check (okKD Try.prog opkKn opkDer [3, 4, 5, 6] opkET 100000 60 7 (opkArgs true)) opk0k22y = true := check_same (Ky := opk0k23y) (Kn := opk0k23n) (i := ⟨0, 2000, []⟩) (by kernel_rfl) (by kernel_rfl) (by kernel_rfl) (.inr opk0h24) (.inr opk0h29)
theorem opk0h30 : DT.leaf.check (okKD Try.prog opkKn opkDer [3, 4, 5, 6] opkET 100000 60 7 (opkArgs true)) opk0k22n = true := check_leaf (by kernel_rfl)
def opk0t22 : DT := .less 8 (1048577) opk0t23 .leaf
theorem opk0h22 : opk0t22.check (okKD Try.prog opkKn opkDer [3, 4, 5, 6] opkET 100000 60 7 (opkArgs true)) opk0k20n = true := check_less (Ky := opk0k22y) (Kn := opk0k22n) (i := ⟨1, 9223372036854775807, []⟩) (by kernel_rfl) (by kernel_rfl) (by kernel_rfl) (.inr opk0h23) (.inr opk0h30)
def opk0t20 : DT := .less 8 (1) .leaf opk0t22
theorem opk0h20 : opk0t20.check (okKD Try.prog opkKn opkDer [3, 4, 5, 6] opkET 100000 60 7 (opkArgs true)) opk0k19y = true := check_less (Ky := opk0k20y) (Kn := opk0k20n) (i := ⟨-9223372036854775808, 9223372036854775807, []⟩) (by kernel_rfl) (by kernel_rfl) (by kernel_rfl) (.inr opk0h21) (.inr opk0h22)
theorem opk0h31 : DT.leaf.check (okKD Try.prog opkKn opkDer [3, 4, 5, 6] opkET 100000 60 7 (opkArgs true)) opk0k19n = true := check_leaf (by kernel_rfl)
def opk0t19 : DT := .less 7 (4) opk0t20 .leaf
theorem opk0h19 : opk0t19.check (okKD Try.prog opkKn opkDer [3, 4, 5, 6] opkET 100000 60 7 (opkArgs true)) opk0k17n = true := check_less (Ky := opk0k19y) (Kn := opk0k19n) (i := ⟨0, 9223372036854775807, []⟩) (by kernel_rfl) (by kernel_rfl) (by kernel_rfl) (.inr opk0h20) (.inr opk0h31)
def opk0t17 : DT := .less 7 (0) .leaf opk0t19
theorem opk0h17 : opk0t17.check (okKD Try.prog opkKn opkDer [3, 4, 5, 6] opkET 100000 60 7 (opkArgs true)) opk0k16y = true := check_less (Ky := opk0k17y) (Kn := opk0k17n) (i := ⟨-9223372036854775808, 9223372036854775807, []⟩) (by kernel_rfl) (by kernel_rfl) (by kernel_rfl) (.inr opk0h18) (.inr opk0h19)
def opk0k32y : KB := opk0k16n.put 0 ⟨6, 6, [1]⟩
def opk0k32n : KB := opk0k16n.put 0 ⟨-9223372036854775808, 9223372036854775807, [6, 1]⟩
def opk0k33y : KB := opk0k32y.put 7 ⟨-9223372036854775808, -1, []⟩
def opk0k33n : KB := opk0k32y.put 7 ⟨0, 9223372036854775807, []⟩
theorem opk0h34 : DT.leaf.check (okKD Try.prog opkKn opkDer [3, 4, 5, 6] opkET 100000 60 7 (opkArgs true)) opk0k33y = true := check_leaf (by kernel_rfl)
def opk0k35y : KB := opk0k33n.put 7 ⟨0, 3, []⟩
def opk0k35n : KB := opk0k33n.put 7 ⟨4, 9223372036854775807, []⟩
def opk0k36y : KB := opk0k35y.put 8 ⟨-9223372036854775808, 0, []⟩
def opk0k36n : KB := opk0k35y.put 8 ⟨1, 9223372036854775807, []⟩
theorem opk0h37 : DT.leaf.check (okKD Try.prog opkKn opkDer [3, 4, 5, 6] opkET 100000 60 7 (opkArgs true)) opk0k36y = true := check_leaf (by kernel_rfl)
def opk0k38y : KB := opk0k36n.put 8 ⟨1, 1048576, []⟩
def opk0k38n : KB := opk0k36n.put 8 ⟨1048577, 9223372036854775807, []⟩
def opk0k39y : KB := opk0k38y.put 1005 ⟨0, 0, []⟩
def opk0k39n : KB := opk0k38y.put 1005 ⟨1, 2000, []⟩
def opk0k40y : KB := opk0k39y.put 1006 ⟨0, 0, []⟩
def opk0k40n : KB := opk0k39y.put 1006 ⟨1, 2000, []⟩
def opk0k41y : KB := opk0k40y.put 9 ⟨0, 0, []⟩
def opk0k41n : KB := opk0k40y.put 9 ⟨-9223372036854775808, 9223372036854775807, [0]⟩
theorem opk0h42 : DT.leaf.check (okKD Try.prog opkKn opkDer [3, 4, 5, 6] opkET 100000 60 7 (opkArgs true)) opk0k41y = true := check_leaf (by kernel_rfl)
theorem opk0h43 : DT.leaf.check (okKD Try.prog opkKn opkDer [3, 4, 5, 6] opkET 100000 60 7 (opkArgs true)) opk0k41n = true := check_leaf (by kernel_rfl)
def opk0t41 : DT := .same 9 (0) .leaf .leaf
theorem opk0h41 : opk0t41.check (okKD Try.prog opkKn opkDer [3, 4, 5, 6] opkET 100000 60 7 (opkArgs true)) opk0k40y = true := check_same (Ky := opk0k41y) (Kn := opk0k41n) (i := ⟨-9223372036854775808, 9223372036854775807, []⟩) (by kernel_rfl) (by kernel_rfl) (by kernel_rfl) (.inr opk0h42) (.inr opk0h43)
theorem opk0h44 : DT.leaf.check (okKD Try.prog opkKn opkDer [3, 4, 5, 6] opkET 100000 60 7 (opkArgs true)) opk0k40n = true := check_leaf (by kernel_rfl)
def opk0t40 : DT := .same 1006 (0) opk0t41 .leaf
theorem opk0h40 : opk0t40.check (okKD Try.prog opkKn opkDer [3, 4, 5, 6] opkET 100000 60 7 (opkArgs true)) opk0k39y = true := check_same (Ky := opk0k40y) (Kn := opk0k40n) (i := ⟨0, 2000, []⟩) (by kernel_rfl) (by kernel_rfl) (by kernel_rfl) (.inr opk0h41) (.inr opk0h44)
theorem opk0h45 : DT.leaf.check (okKD Try.prog opkKn opkDer [3, 4, 5, 6] opkET 100000 60 7 (opkArgs true)) opk0k39n = true := check_leaf (by kernel_rfl)
def opk0t39 : DT := .same 1005 (0) opk0t40 .leaf
theorem opk0h39 : opk0t39.check (okKD Try.prog opkKn opkDer [3, 4, 5, 6] opkET 100000 60 7 (opkArgs true)) opk0k38y = true := check_same (Ky := opk0k39y) (Kn := opk0k39n) (i := ⟨0, 2000, []⟩) (by kernel_rfl) (by kernel_rfl) (by kernel_rfl) (.inr opk0h40) (.inr opk0h45)
theorem opk0h46 : DT.leaf.check (okKD Try.prog opkKn opkDer [3, 4, 5, 6] opkET 100000 60 7 (opkArgs true)) opk0k38n = true := check_leaf (by kernel_rfl)
def opk0t38 : DT := .less 8 (1048577) opk0t39 .leaf
theorem opk0h38 : opk0t38.check (okKD Try.prog opkKn opkDer [3, 4, 5, 6] opkET 100000 60 7 (opkArgs true)) opk0k36n = true := check_less (Ky := opk0k38y) (Kn := opk0k38n) (i := ⟨1, 9223372036854775807, []⟩) (by kernel_rfl) (by kernel_rfl) (by kernel_rfl) (.inr opk0h39) (.inr opk0h46)
def opk0t36 : DT := .less 8 (1) .leaf opk0t38
theorem opk0h36 : opk0t36.check (okKD Try.prog opkKn opkDer [3, 4, 5, 6] opkET 100000 60 7 (opkArgs true)) opk0k35y = true := check_less (Ky := opk0k36y) (Kn := opk0k36n) (i := ⟨-9223372036854775808, 9223372036854775807, []⟩) (by kernel_rfl) (by kernel_rfl) (by kernel_rfl) (.inr opk0h37) (.inr opk0h38)
theorem opk0h47 : DT.leaf.check (okKD Try.prog opkKn opkDer [3, 4, 5, 6] opkET 100000 60 7 (opkArgs true)) opk0k35n = true := check_leaf (by kernel_rfl)
def opk0t35 : DT := .less 7 (4) opk0t36 .leaf
theorem opk0h35 : opk0t35.check (okKD Try.prog opkKn opkDer [3, 4, 5, 6] opkET 100000 60 7 (opkArgs true)) opk0k33n = true := check_less (Ky := opk0k35y) (Kn := opk0k35n) (i := ⟨0, 9223372036854775807, []⟩) (by kernel_rfl) (by kernel_rfl) (by kernel_rfl) (.inr opk0h36) (.inr opk0h47)
def opk0t33 : DT := .less 7 (0) .leaf opk0t35
theorem opk0h33 : opk0t33.check (okKD Try.prog opkKn opkDer [3, 4, 5, 6] opkET 100000 60 7 (opkArgs true)) opk0k32y = true := check_less (Ky := opk0k33y) (Kn := opk0k33n) (i := ⟨-9223372036854775808, 9223372036854775807, []⟩) (by kernel_rfl) (by kernel_rfl) (by kernel_rfl) (.inr opk0h34) (.inr opk0h35)
def opk0k48y : KB := opk0k32n.put 0 ⟨2, 2, [6, 1]⟩
def opk0k48n : KB := opk0k32n.put 0 ⟨-9223372036854775808, 9223372036854775807, [2, 6, 1]⟩
def opk0k49y : KB := opk0k48y.put 7 ⟨-9223372036854775808, -1, []⟩
def opk0k49n : KB := opk0k48y.put 7 ⟨0, 9223372036854775807, []⟩
theorem opk0h50 : DT.leaf.check (okKD Try.prog opkKn opkDer [3, 4, 5, 6] opkET 100000 60 7 (opkArgs true)) opk0k49y = true := check_leaf (by kernel_rfl)
def opk0k51y : KB := opk0k49n.put 7 ⟨0, 3, []⟩
def opk0k51n : KB := opk0k49n.put 7 ⟨4, 9223372036854775807, []⟩
def opk0k52y : KB := opk0k51y.put 8 ⟨-9223372036854775808, 0, []⟩
def opk0k52n : KB := opk0k51y.put 8 ⟨1, 9223372036854775807, []⟩
theorem opk0h53 : DT.leaf.check (okKD Try.prog opkKn opkDer [3, 4, 5, 6] opkET 100000 60 7 (opkArgs true)) opk0k52y = true := check_leaf (by kernel_rfl)
def opk0k54y : KB := opk0k52n.put 8 ⟨1, 1048576, []⟩
def opk0k54n : KB := opk0k52n.put 8 ⟨1048577, 9223372036854775807, []⟩
def opk0k55y : KB := opk0k54y.put 1005 ⟨0, 0, []⟩
def opk0k55n : KB := opk0k54y.put 1005 ⟨1, 2000, []⟩
theorem opk0h56 : DT.leaf.check (okKD Try.prog opkKn opkDer [3, 4, 5, 6] opkET 100000 60 7 (opkArgs true)) opk0k55y = true := check_leaf (by kernel_rfl)
def opk0k57y : KB := opk0k55n.put 1005 ⟨1, 16, []⟩
def opk0k57n : KB := opk0k55n.put 1005 ⟨17, 2000, []⟩
def opk0k58y : KB := opk0k57y.put 1006 ⟨0, 0, []⟩
def opk0k58n : KB := opk0k57y.put 1006 ⟨1, 2000, []⟩
theorem opk0h59 : DT.leaf.check (okKD Try.prog opkKn opkDer [3, 4, 5, 6] opkET 100000 60 7 (opkArgs true)) opk0k58y = true := check_leaf (by kernel_rfl)
def opk0k60y : KB := opk0k58n.put 1006 ⟨1, 16, []⟩
def opk0k60n : KB := opk0k58n.put 1006 ⟨17, 2000, []⟩
def opk0k61y : KB := opk0k60y.put 9 ⟨0, 0, []⟩
def opk0k61n : KB := opk0k60y.put 9 ⟨-9223372036854775808, 9223372036854775807, [0]⟩
theorem opk0h62 : DT.leaf.check (okKD Try.prog opkKn opkDer [3, 4, 5, 6] opkET 100000 60 7 (opkArgs true)) opk0k61y = true := check_leaf (by kernel_rfl)
theorem opk0h63 : DT.leaf.check (okKD Try.prog opkKn opkDer [3, 4, 5, 6] opkET 100000 60 7 (opkArgs true)) opk0k61n = true := check_leaf (by kernel_rfl)
def opk0t61 : DT := .same 9 (0) .leaf .leaf
theorem opk0h61 : opk0t61.check (okKD Try.prog opkKn opkDer [3, 4, 5, 6] opkET 100000 60 7 (opkArgs true)) opk0k60y = true := check_same (Ky := opk0k61y) (Kn := opk0k61n) (i := ⟨-9223372036854775808, 9223372036854775807, []⟩) (by kernel_rfl) (by kernel_rfl) (by kernel_rfl) (.inr opk0h62) (.inr opk0h63)
theorem opk0h64 : DT.leaf.check (okKD Try.prog opkKn opkDer [3, 4, 5, 6] opkET 100000 60 7 (opkArgs true)) opk0k60n = true := check_leaf (by kernel_rfl)
def opk0t60 : DT := .less 1006 (17) opk0t61 .leaf
theorem opk0h60 : opk0t60.check (okKD Try.prog opkKn opkDer [3, 4, 5, 6] opkET 100000 60 7 (opkArgs true)) opk0k58n = true := check_less (Ky := opk0k60y) (Kn := opk0k60n) (i := ⟨1, 2000, []⟩) (by kernel_rfl) (by kernel_rfl) (by kernel_rfl) (.inr opk0h61) (.inr opk0h64)
def opk0t58 : DT := .less 1006 (1) .leaf opk0t60
theorem opk0h58 : opk0t58.check (okKD Try.prog opkKn opkDer [3, 4, 5, 6] opkET 100000 60 7 (opkArgs true)) opk0k57y = true := check_less (Ky := opk0k58y) (Kn := opk0k58n) (i := ⟨0, 2000, []⟩) (by kernel_rfl) (by kernel_rfl) (by kernel_rfl) (.inr opk0h59) (.inr opk0h60)
theorem opk0h65 : DT.leaf.check (okKD Try.prog opkKn opkDer [3, 4, 5, 6] opkET 100000 60 7 (opkArgs true)) opk0k57n = true := check_leaf (by kernel_rfl)
def opk0t57 : DT := .less 1005 (17) opk0t58 .leaf
theorem opk0h57 : opk0t57.check (okKD Try.prog opkKn opkDer [3, 4, 5, 6] opkET 100000 60 7 (opkArgs true)) opk0k55n = true := check_less (Ky := opk0k57y) (Kn := opk0k57n) (i := ⟨1, 2000, []⟩) (by kernel_rfl) (by kernel_rfl) (by kernel_rfl) (.inr opk0h58) (.inr opk0h65)
def opk0t55 : DT := .less 1005 (1) .leaf opk0t57
theorem opk0h55 : opk0t55.check (okKD Try.prog opkKn opkDer [3, 4, 5, 6] opkET 100000 60 7 (opkArgs true)) opk0k54y = true := check_less (Ky := opk0k55y) (Kn := opk0k55n) (i := ⟨0, 2000, []⟩) (by kernel_rfl) (by kernel_rfl) (by kernel_rfl) (.inr opk0h56) (.inr opk0h57)
theorem opk0h66 : DT.leaf.check (okKD Try.prog opkKn opkDer [3, 4, 5, 6] opkET 100000 60 7 (opkArgs true)) opk0k54n = true := check_leaf (by kernel_rfl)
def opk0t54 : DT := .less 8 (1048577) opk0t55 .leaf
theorem opk0h54 : opk0t54.check (okKD Try.prog opkKn opkDer [3, 4, 5, 6] opkET 100000 60 7 (opkArgs true)) opk0k52n = true := check_less (Ky := opk0k54y) (Kn := opk0k54n) (i := ⟨1, 9223372036854775807, []⟩) (by kernel_rfl) (by kernel_rfl) (by kernel_rfl) (.inr opk0h55) (.inr opk0h66)
def opk0t52 : DT := .less 8 (1) .leaf opk0t54
theorem opk0h52 : opk0t52.check (okKD Try.prog opkKn opkDer [3, 4, 5, 6] opkET 100000 60 7 (opkArgs true)) opk0k51y = true := check_less (Ky := opk0k52y) (Kn := opk0k52n) (i := ⟨-9223372036854775808, 9223372036854775807, []⟩) (by kernel_rfl) (by kernel_rfl) (by kernel_rfl) (.inr opk0h53) (.inr opk0h54)
theorem opk0h67 : DT.leaf.check (okKD Try.prog opkKn opkDer [3, 4, 5, 6] opkET 100000 60 7 (opkArgs true)) opk0k51n = true := check_leaf (by kernel_rfl)
def opk0t51 : DT := .less 7 (4) opk0t52 .leaf
theorem opk0h51 : opk0t51.check (okKD Try.prog opkKn opkDer [3, 4, 5, 6] opkET 100000 60 7 (opkArgs true)) opk0k49n = true := check_less (Ky := opk0k51y) (Kn := opk0k51n) (i := ⟨0, 9223372036854775807, []⟩) (by kernel_rfl) (by kernel_rfl) (by kernel_rfl) (.inr opk0h52) (.inr opk0h67)
def opk0t49 : DT := .less 7 (0) .leaf opk0t51
theorem opk0h49 : opk0t49.check (okKD Try.prog opkKn opkDer [3, 4, 5, 6] opkET 100000 60 7 (opkArgs true)) opk0k48y = true := check_less (Ky := opk0k49y) (Kn := opk0k49n) (i := ⟨-9223372036854775808, 9223372036854775807, []⟩) (by kernel_rfl) (by kernel_rfl) (by kernel_rfl) (.inr opk0h50) (.inr opk0h51)
def opk0k68y : KB := opk0k48n.put 0 ⟨3, 3, [2, 6, 1]⟩
def opk0k68n : KB := opk0k48n.put 0 ⟨-9223372036854775808, 9223372036854775807, [3, 2, 6, 1]⟩
def opk0k69y : KB := opk0k68y.put 7 ⟨-9223372036854775808, 0, []⟩
def opk0k69n : KB := opk0k68y.put 7 ⟨1, 9223372036854775807, []⟩
theorem opk0h70 : DT.leaf.check (okKD Try.prog opkKn opkDer [3, 4, 5, 6] opkET 100000 60 7 (opkArgs true)) opk0k69y = true := check_leaf (by kernel_rfl)
def opk0k71y : KB := opk0k69n.put 7 ⟨1, 3, []⟩
def opk0k71n : KB := opk0k69n.put 7 ⟨4, 9223372036854775807, []⟩
def opk0k72y : KB := opk0k71y.put 8 ⟨-9223372036854775808, 0, []⟩
def opk0k72n : KB := opk0k71y.put 8 ⟨1, 9223372036854775807, []⟩
theorem opk0h73 : DT.leaf.check (okKD Try.prog opkKn opkDer [3, 4, 5, 6] opkET 100000 60 7 (opkArgs true)) opk0k72y = true := check_leaf (by kernel_rfl)
def opk0k74y : KB := opk0k72n.put 8 ⟨1, 1048576, []⟩
def opk0k74n : KB := opk0k72n.put 8 ⟨1048577, 9223372036854775807, []⟩
def opk0k75y : KB := opk0k74y.put 9 ⟨-9223372036854775808, 0, []⟩
def opk0k75n : KB := opk0k74y.put 9 ⟨1, 9223372036854775807, []⟩
theorem opk0h76 : DT.leaf.check (okKD Try.prog opkKn opkDer [3, 4, 5, 6] opkET 100000 60 7 (opkArgs true)) opk0k75y = true := check_leaf (by kernel_rfl)
def opk0k77y : KB := opk0k75n.put 9 ⟨1, 1024, []⟩
def opk0k77n : KB := opk0k75n.put 9 ⟨1025, 9223372036854775807, []⟩
def opk0k78y : KB := opk0k77y.put 1005 ⟨0, 0, []⟩
def opk0k78n : KB := opk0k77y.put 1005 ⟨1, 2000, []⟩
def opk0k79y : KB := opk0k78y.put 1006 ⟨0, 0, []⟩
def opk0k79n : KB := opk0k78y.put 1006 ⟨1, 2000, []⟩
def opk0k80y : KB := opk0k79y.put 2000 ⟨0, 0, []⟩
def opk0k80n : KB := opk0k79y.put 2000 ⟨1, 7, []⟩
theorem opk0h81 : DT.leaf.check (okKD Try.prog opkKn opkDer [3, 4, 5, 6] opkET 100000 60 7 (opkArgs true)) opk0k80y = true := check_leaf (by kernel_rfl)
def opk0k82y : KB := opk0k80n.put 2000 ⟨1, 1, []⟩
def opk0k82n : KB := opk0k80n.put 2000 ⟨2, 7, []⟩
theorem opk0h83 : DT.leaf.check (okKD Try.prog opkKn opkDer [3, 4, 5, 6] opkET 100000 60 7 (opkArgs true)) opk0k82y = true := check_leaf (by kernel_rfl)
def opk0k84y : KB := opk0k82n.put 2000 ⟨2, 2, []⟩
def opk0k84n : KB := opk0k82n.put 2000 ⟨3, 7, []⟩
theorem opk0h85 : DT.leaf.check (okKD Try.prog opkKn opkDer [3, 4, 5, 6] opkET 100000 60 7 (opkArgs true)) opk0k84y = true := check_leaf (by kernel_rfl)
def opk0k86y : KB := opk0k84n.put 2000 ⟨3, 3, []⟩
def opk0k86n : KB := opk0k84n.put 2000 ⟨4, 7, []⟩
theorem opk0h87 : DT.leaf.check (okKD Try.prog opkKn opkDer [3, 4, 5, 6] opkET 100000 60 7 (opkArgs true)) opk0k86y = true := check_leaf (by kernel_rfl)
def opk0k88y : KB := opk0k86n.put 2000 ⟨4, 4, []⟩
def opk0k88n : KB := opk0k86n.put 2000 ⟨5, 7, []⟩
theorem opk0h89 : DT.leaf.check (okKD Try.prog opkKn opkDer [3, 4, 5, 6] opkET 100000 60 7 (opkArgs true)) opk0k88y = true := check_leaf (by kernel_rfl)
def opk0k90y : KB := opk0k88n.put 2000 ⟨5, 5, []⟩
def opk0k90n : KB := opk0k88n.put 2000 ⟨6, 7, []⟩
theorem opk0h91 : DT.leaf.check (okKD Try.prog opkKn opkDer [3, 4, 5, 6] opkET 100000 60 7 (opkArgs true)) opk0k90y = true := check_leaf (by kernel_rfl)
def opk0k92y : KB := opk0k90n.put 2000 ⟨6, 6, []⟩
def opk0k92n : KB := opk0k90n.put 2000 ⟨7, 7, []⟩
theorem opk0h93 : DT.leaf.check (okKD Try.prog opkKn opkDer [3, 4, 5, 6] opkET 100000 60 7 (opkArgs true)) opk0k92y = true := check_leaf (by kernel_rfl)
theorem opk0h94 : DT.leaf.check (okKD Try.prog opkKn opkDer [3, 4, 5, 6] opkET 100000 60 7 (opkArgs true)) opk0k92n = true := check_leaf (by kernel_rfl)
def opk0t92 : DT := .same 2000 (6) .leaf .leaf
theorem opk0h92 : opk0t92.check (okKD Try.prog opkKn opkDer [3, 4, 5, 6] opkET 100000 60 7 (opkArgs true)) opk0k90n = true := check_same (Ky := opk0k92y) (Kn := opk0k92n) (i := ⟨6, 7, []⟩) (by kernel_rfl) (by kernel_rfl) (by kernel_rfl) (.inr opk0h93) (.inr opk0h94)
def opk0t90 : DT := .same 2000 (5) .leaf opk0t92
theorem opk0h90 : opk0t90.check (okKD Try.prog opkKn opkDer [3, 4, 5, 6] opkET 100000 60 7 (opkArgs true)) opk0k88n = true := check_same (Ky := opk0k90y) (Kn := opk0k90n) (i := ⟨5, 7, []⟩) (by kernel_rfl) (by kernel_rfl) (by kernel_rfl) (.inr opk0h91) (.inr opk0h92)
def opk0t88 : DT := .same 2000 (4) .leaf opk0t90
theorem opk0h88 : opk0t88.check (okKD Try.prog opkKn opkDer [3, 4, 5, 6] opkET 100000 60 7 (opkArgs true)) opk0k86n = true := check_same (Ky := opk0k88y) (Kn := opk0k88n) (i := ⟨4, 7, []⟩) (by kernel_rfl) (by kernel_rfl) (by kernel_rfl) (.inr opk0h89) (.inr opk0h90)
def opk0t86 : DT := .same 2000 (3) .leaf opk0t88
theorem opk0h86 : opk0t86.check (okKD Try.prog opkKn opkDer [3, 4, 5, 6] opkET 100000 60 7 (opkArgs true)) opk0k84n = true := check_same (Ky := opk0k86y) (Kn := opk0k86n) (i := ⟨3, 7, []⟩) (by kernel_rfl) (by kernel_rfl) (by kernel_rfl) (.inr opk0h87) (.inr opk0h88)
def opk0t84 : DT := .same 2000 (2) .leaf opk0t86
theorem opk0h84 : opk0t84.check (okKD Try.prog opkKn opkDer [3, 4, 5, 6] opkET 100000 60 7 (opkArgs true)) opk0k82n = true := check_same (Ky := opk0k84y) (Kn := opk0k84n) (i := ⟨2, 7, []⟩) (by kernel_rfl) (by kernel_rfl) (by kernel_rfl) (.inr opk0h85) (.inr opk0h86)
def opk0t82 : DT := .same 2000 (1) .leaf opk0t84
theorem opk0h82 : opk0t82.check (okKD Try.prog opkKn opkDer [3, 4, 5, 6] opkET 100000 60 7 (opkArgs true)) opk0k80n = true := check_same (Ky := opk0k82y) (Kn := opk0k82n) (i := ⟨1, 7, []⟩) (by kernel_rfl) (by kernel_rfl) (by kernel_rfl) (.inr opk0h83) (.inr opk0h84)
def opk0t80 : DT := .same 2000 (0) .leaf opk0t82
theorem opk0h80 : opk0t80.check (okKD Try.prog opkKn opkDer [3, 4, 5, 6] opkET 100000 60 7 (opkArgs true)) opk0k79y = true := check_same (Ky := opk0k80y) (Kn := opk0k80n) (i := ⟨0, 7, []⟩) (by kernel_rfl) (by kernel_rfl) (by kernel_rfl) (.inr opk0h81) (.inr opk0h82)
theorem opk0h95 : DT.leaf.check (okKD Try.prog opkKn opkDer [3, 4, 5, 6] opkET 100000 60 7 (opkArgs true)) opk0k79n = true := check_leaf (by kernel_rfl)
def opk0t79 : DT := .same 1006 (0) opk0t80 .leaf
theorem opk0h79 : opk0t79.check (okKD Try.prog opkKn opkDer [3, 4, 5, 6] opkET 100000 60 7 (opkArgs true)) opk0k78y = true := check_same (Ky := opk0k79y) (Kn := opk0k79n) (i := ⟨0, 2000, []⟩) (by kernel_rfl) (by kernel_rfl) (by kernel_rfl) (.inr opk0h80) (.inr opk0h95)
theorem opk0h96 : DT.leaf.check (okKD Try.prog opkKn opkDer [3, 4, 5, 6] opkET 100000 60 7 (opkArgs true)) opk0k78n = true := check_leaf (by kernel_rfl)
def opk0t78 : DT := .same 1005 (0) opk0t79 .leaf
theorem opk0h78 : opk0t78.check (okKD Try.prog opkKn opkDer [3, 4, 5, 6] opkET 100000 60 7 (opkArgs true)) opk0k77y = true := check_same (Ky := opk0k78y) (Kn := opk0k78n) (i := ⟨0, 2000, []⟩) (by kernel_rfl) (by kernel_rfl) (by kernel_rfl) (.inr opk0h79) (.inr opk0h96)
theorem opk0h97 : DT.leaf.check (okKD Try.prog opkKn opkDer [3, 4, 5, 6] opkET 100000 60 7 (opkArgs true)) opk0k77n = true := check_leaf (by kernel_rfl)
def opk0t77 : DT := .less 9 (1025) opk0t78 .leaf
theorem opk0h77 : opk0t77.check (okKD Try.prog opkKn opkDer [3, 4, 5, 6] opkET 100000 60 7 (opkArgs true)) opk0k75n = true := check_less (Ky := opk0k77y) (Kn := opk0k77n) (i := ⟨1, 9223372036854775807, []⟩) (by kernel_rfl) (by kernel_rfl) (by kernel_rfl) (.inr opk0h78) (.inr opk0h97)
def opk0t75 : DT := .less 9 (1) .leaf opk0t77
theorem opk0h75 : opk0t75.check (okKD Try.prog opkKn opkDer [3, 4, 5, 6] opkET 100000 60 7 (opkArgs true)) opk0k74y = true := check_less (Ky := opk0k75y) (Kn := opk0k75n) (i := ⟨-9223372036854775808, 9223372036854775807, []⟩) (by kernel_rfl) (by kernel_rfl) (by kernel_rfl) (.inr opk0h76) (.inr opk0h77)
theorem opk0h98 : DT.leaf.check (okKD Try.prog opkKn opkDer [3, 4, 5, 6] opkET 100000 60 7 (opkArgs true)) opk0k74n = true := check_leaf (by kernel_rfl)
def opk0t74 : DT := .less 8 (1048577) opk0t75 .leaf
theorem opk0h74 : opk0t74.check (okKD Try.prog opkKn opkDer [3, 4, 5, 6] opkET 100000 60 7 (opkArgs true)) opk0k72n = true := check_less (Ky := opk0k74y) (Kn := opk0k74n) (i := ⟨1, 9223372036854775807, []⟩) (by kernel_rfl) (by kernel_rfl) (by kernel_rfl) (.inr opk0h75) (.inr opk0h98)
def opk0t72 : DT := .less 8 (1) .leaf opk0t74
theorem opk0h72 : opk0t72.check (okKD Try.prog opkKn opkDer [3, 4, 5, 6] opkET 100000 60 7 (opkArgs true)) opk0k71y = true := check_less (Ky := opk0k72y) (Kn := opk0k72n) (i := ⟨-9223372036854775808, 9223372036854775807, []⟩) (by kernel_rfl) (by kernel_rfl) (by kernel_rfl) (.inr opk0h73) (.inr opk0h74)
theorem opk0h99 : DT.leaf.check (okKD Try.prog opkKn opkDer [3, 4, 5, 6] opkET 100000 60 7 (opkArgs true)) opk0k71n = true := check_leaf (by kernel_rfl)
def opk0t71 : DT := .less 7 (4) opk0t72 .leaf
theorem opk0h71 : opk0t71.check (okKD Try.prog opkKn opkDer [3, 4, 5, 6] opkET 100000 60 7 (opkArgs true)) opk0k69n = true := check_less (Ky := opk0k71y) (Kn := opk0k71n) (i := ⟨1, 9223372036854775807, []⟩) (by kernel_rfl) (by kernel_rfl) (by kernel_rfl) (.inr opk0h72) (.inr opk0h99)
def opk0t69 : DT := .less 7 (1) .leaf opk0t71
theorem opk0h69 : opk0t69.check (okKD Try.prog opkKn opkDer [3, 4, 5, 6] opkET 100000 60 7 (opkArgs true)) opk0k68y = true := check_less (Ky := opk0k69y) (Kn := opk0k69n) (i := ⟨-9223372036854775808, 9223372036854775807, []⟩) (by kernel_rfl) (by kernel_rfl) (by kernel_rfl) (.inr opk0h70) (.inr opk0h71)
def opk0k100y : KB := opk0k68n.put 0 ⟨4, 4, [3, 2, 6, 1]⟩
def opk0k100n : KB := opk0k68n.put 0 ⟨-9223372036854775808, 9223372036854775807, [4, 3, 2, 6, 1]⟩
theorem opk0h101 : DT.leaf.check (okKD Try.prog opkKn opkDer [3, 4, 5, 6] opkET 100000 60 7 (opkArgs true)) opk0k100y = true := check_leaf (by kernel_rfl)
def opk0k102y : KB := opk0k100n.put 0 ⟨5, 5, [4, 3, 2, 6, 1]⟩
def opk0k102n : KB := opk0k100n.put 0 ⟨-9223372036854775808, 9223372036854775807, [5, 4, 3, 2, 6, 1]⟩
def opk0k103y : KB := opk0k102y.put 1005 ⟨0, 0, []⟩
def opk0k103n : KB := opk0k102y.put 1005 ⟨1, 2000, []⟩
def opk0k104y : KB := opk0k103y.put 1006 ⟨0, 0, []⟩
def opk0k104n : KB := opk0k103y.put 1006 ⟨1, 2000, []⟩
def opk0k105y : KB := opk0k104y.put 7 ⟨0, 0, []⟩
def opk0k105n : KB := opk0k104y.put 7 ⟨-9223372036854775808, 9223372036854775807, [0]⟩
def opk0k106y : KB := opk0k105y.put 8 ⟨0, 0, []⟩
def opk0k106n : KB := opk0k105y.put 8 ⟨-9223372036854775808, 9223372036854775807, [0]⟩
def opk0k107y : KB := opk0k106y.put 9 ⟨0, 0, []⟩
def opk0k107n : KB := opk0k106y.put 9 ⟨-9223372036854775808, 9223372036854775807, [0]⟩
theorem opk0h108 : DT.leaf.check (okKD Try.prog opkKn opkDer [3, 4, 5, 6] opkET 100000 60 7 (opkArgs true)) opk0k107y = true := check_leaf (by kernel_rfl)
theorem opk0h109 : DT.leaf.check (okKD Try.prog opkKn opkDer [3, 4, 5, 6] opkET 100000 60 7 (opkArgs true)) opk0k107n = true := check_leaf (by kernel_rfl)
def opk0t107 : DT := .same 9 (0) .leaf .leaf
theorem opk0h107 : opk0t107.check (okKD Try.prog opkKn opkDer [3, 4, 5, 6] opkET 100000 60 7 (opkArgs true)) opk0k106y = true := check_same (Ky := opk0k107y) (Kn := opk0k107n) (i := ⟨-9223372036854775808, 9223372036854775807, []⟩) (by kernel_rfl) (by kernel_rfl) (by kernel_rfl) (.inr opk0h108) (.inr opk0h109)
theorem opk0h110 : DT.leaf.check (okKD Try.prog opkKn opkDer [3, 4, 5, 6] opkET 100000 60 7 (opkArgs true)) opk0k106n = true := check_leaf (by kernel_rfl)
def opk0t106 : DT := .same 8 (0) opk0t107 .leaf
theorem opk0h106 : opk0t106.check (okKD Try.prog opkKn opkDer [3, 4, 5, 6] opkET 100000 60 7 (opkArgs true)) opk0k105y = true := check_same (Ky := opk0k106y) (Kn := opk0k106n) (i := ⟨-9223372036854775808, 9223372036854775807, []⟩) (by kernel_rfl) (by kernel_rfl) (by kernel_rfl) (.inr opk0h107) (.inr opk0h110)
theorem opk0h111 : DT.leaf.check (okKD Try.prog opkKn opkDer [3, 4, 5, 6] opkET 100000 60 7 (opkArgs true)) opk0k105n = true := check_leaf (by kernel_rfl)
def opk0t105 : DT := .same 7 (0) opk0t106 .leaf
theorem opk0h105 : opk0t105.check (okKD Try.prog opkKn opkDer [3, 4, 5, 6] opkET 100000 60 7 (opkArgs true)) opk0k104y = true := check_same (Ky := opk0k105y) (Kn := opk0k105n) (i := ⟨-9223372036854775808, 9223372036854775807, []⟩) (by kernel_rfl) (by kernel_rfl) (by kernel_rfl) (.inr opk0h106) (.inr opk0h111)
theorem opk0h112 : DT.leaf.check (okKD Try.prog opkKn opkDer [3, 4, 5, 6] opkET 100000 60 7 (opkArgs true)) opk0k104n = true := check_leaf (by kernel_rfl)
def opk0t104 : DT := .same 1006 (0) opk0t105 .leaf
theorem opk0h104 : opk0t104.check (okKD Try.prog opkKn opkDer [3, 4, 5, 6] opkET 100000 60 7 (opkArgs true)) opk0k103y = true := check_same (Ky := opk0k104y) (Kn := opk0k104n) (i := ⟨0, 2000, []⟩) (by kernel_rfl) (by kernel_rfl) (by kernel_rfl) (.inr opk0h105) (.inr opk0h112)
theorem opk0h113 : DT.leaf.check (okKD Try.prog opkKn opkDer [3, 4, 5, 6] opkET 100000 60 7 (opkArgs true)) opk0k103n = true := check_leaf (by kernel_rfl)
def opk0t103 : DT := .same 1005 (0) opk0t104 .leaf
theorem opk0h103 : opk0t103.check (okKD Try.prog opkKn opkDer [3, 4, 5, 6] opkET 100000 60 7 (opkArgs true)) opk0k102y = true := check_same (Ky := opk0k103y) (Kn := opk0k103n) (i := ⟨0, 2000, []⟩) (by kernel_rfl) (by kernel_rfl) (by kernel_rfl) (.inr opk0h104) (.inr opk0h113)
def opk0k114y : KB := opk0k102n.put 0 ⟨7, 7, [5, 4, 3, 2, 6, 1]⟩
def opk0k114n : KB := opk0k102n.put 0 ⟨-9223372036854775808, 9223372036854775807, [7, 5, 4, 3, 2, 6, 1]⟩
def opk0k115y : KB := opk0k114y.put 1005 ⟨0, 0, []⟩
def opk0k115n : KB := opk0k114y.put 1005 ⟨1, 2000, []⟩
def opk0k116y : KB := opk0k115y.put 1006 ⟨0, 0, []⟩
def opk0k116n : KB := opk0k115y.put 1006 ⟨1, 2000, []⟩
def opk0k117y : KB := opk0k116y.put 7 ⟨0, 0, []⟩
def opk0k117n : KB := opk0k116y.put 7 ⟨-9223372036854775808, 9223372036854775807, [0]⟩
def opk0k118y : KB := opk0k117y.put 8 ⟨0, 0, []⟩
def opk0k118n : KB := opk0k117y.put 8 ⟨-9223372036854775808, 9223372036854775807, [0]⟩
def opk0k119y : KB := opk0k118y.put 9 ⟨0, 0, []⟩
def opk0k119n : KB := opk0k118y.put 9 ⟨-9223372036854775808, 9223372036854775807, [0]⟩
theorem opk0h120 : DT.leaf.check (okKD Try.prog opkKn opkDer [3, 4, 5, 6] opkET 100000 60 7 (opkArgs true)) opk0k119y = true := check_leaf (by kernel_rfl)
theorem opk0h121 : DT.leaf.check (okKD Try.prog opkKn opkDer [3, 4, 5, 6] opkET 100000 60 7 (opkArgs true)) opk0k119n = true := check_leaf (by kernel_rfl)
def opk0t119 : DT := .same 9 (0) .leaf .leaf
theorem opk0h119 : opk0t119.check (okKD Try.prog opkKn opkDer [3, 4, 5, 6] opkET 100000 60 7 (opkArgs true)) opk0k118y = true := check_same (Ky := opk0k119y) (Kn := opk0k119n) (i := ⟨-9223372036854775808, 9223372036854775807, []⟩) (by kernel_rfl) (by kernel_rfl) (by kernel_rfl) (.inr opk0h120) (.inr opk0h121)
theorem opk0h122 : DT.leaf.check (okKD Try.prog opkKn opkDer [3, 4, 5, 6] opkET 100000 60 7 (opkArgs true)) opk0k118n = true := check_leaf (by kernel_rfl)
def opk0t118 : DT := .same 8 (0) opk0t119 .leaf
theorem opk0h118 : opk0t118.check (okKD Try.prog opkKn opkDer [3, 4, 5, 6] opkET 100000 60 7 (opkArgs true)) opk0k117y = true := check_same (Ky := opk0k118y) (Kn := opk0k118n) (i := ⟨-9223372036854775808, 9223372036854775807, []⟩) (by kernel_rfl) (by kernel_rfl) (by kernel_rfl) (.inr opk0h119) (.inr opk0h122)
theorem opk0h123 : DT.leaf.check (okKD Try.prog opkKn opkDer [3, 4, 5, 6] opkET 100000 60 7 (opkArgs true)) opk0k117n = true := check_leaf (by kernel_rfl)
def opk0t117 : DT := .same 7 (0) opk0t118 .leaf
theorem opk0h117 : opk0t117.check (okKD Try.prog opkKn opkDer [3, 4, 5, 6] opkET 100000 60 7 (opkArgs true)) opk0k116y = true := check_same (Ky := opk0k117y) (Kn := opk0k117n) (i := ⟨-9223372036854775808, 9223372036854775807, []⟩) (by kernel_rfl) (by kernel_rfl) (by kernel_rfl) (.inr opk0h118) (.inr opk0h123)
theorem opk0h124 : DT.leaf.check (okKD Try.prog opkKn opkDer [3, 4, 5, 6] opkET 100000 60 7 (opkArgs true)) opk0k116n = true := check_leaf (by kernel_rfl)
def opk0t116 : DT := .same 1006 (0) opk0t117 .leaf
theorem opk0h116 : opk0t116.check (okKD Try.prog opkKn opkDer [3, 4, 5, 6] opkET 100000 60 7 (opkArgs true)) opk0k115y = true := check_same (Ky := opk0k116y) (Kn := opk0k116n) (i := ⟨0, 2000, []⟩) (by kernel_rfl) (by kernel_rfl) (by kernel_rfl) (.inr opk0h117) (.inr opk0h124)
theorem opk0h125 : DT.leaf.check (okKD Try.prog opkKn opkDer [3, 4, 5, 6] opkET 100000 60 7 (opkArgs true)) opk0k115n = true := check_leaf (by kernel_rfl)
def opk0t115 : DT := .same 1005 (0) opk0t116 .leaf
theorem opk0h115 : opk0t115.check (okKD Try.prog opkKn opkDer [3, 4, 5, 6] opkET 100000 60 7 (opkArgs true)) opk0k114y = true := check_same (Ky := opk0k115y) (Kn := opk0k115n) (i := ⟨0, 2000, []⟩) (by kernel_rfl) (by kernel_rfl) (by kernel_rfl) (.inr opk0h116) (.inr opk0h125)
theorem opk0h126 : DT.leaf.check (okKD Try.prog opkKn opkDer [3, 4, 5, 6] opkET 100000 60 7 (opkArgs true)) opk0k114n = true := check_leaf (by kernel_rfl)
def opk0t114 : DT := .same 0 (7) opk0t115 .leaf
theorem opk0h114 : opk0t114.check (okKD Try.prog opkKn opkDer [3, 4, 5, 6] opkET 100000 60 7 (opkArgs true)) opk0k102n = true := check_same (Ky := opk0k114y) (Kn := opk0k114n) (i := ⟨-9223372036854775808, 9223372036854775807, [5, 4, 3, 2, 6, 1]⟩) (by kernel_rfl) (by kernel_rfl) (by kernel_rfl) (.inr opk0h115) (.inr opk0h126)
def opk0t102 : DT := .same 0 (5) opk0t103 opk0t114
theorem opk0h102 : opk0t102.check (okKD Try.prog opkKn opkDer [3, 4, 5, 6] opkET 100000 60 7 (opkArgs true)) opk0k100n = true := check_same (Ky := opk0k102y) (Kn := opk0k102n) (i := ⟨-9223372036854775808, 9223372036854775807, [4, 3, 2, 6, 1]⟩) (by kernel_rfl) (by kernel_rfl) (by kernel_rfl) (.inr opk0h103) (.inr opk0h114)
def opk0t100 : DT := .same 0 (4) .leaf opk0t102
theorem opk0h100 : opk0t100.check (okKD Try.prog opkKn opkDer [3, 4, 5, 6] opkET 100000 60 7 (opkArgs true)) opk0k68n = true := check_same (Ky := opk0k100y) (Kn := opk0k100n) (i := ⟨-9223372036854775808, 9223372036854775807, [3, 2, 6, 1]⟩) (by kernel_rfl) (by kernel_rfl) (by kernel_rfl) (.inr opk0h101) (.inr opk0h102)
def opk0t68 : DT := .same 0 (3) opk0t69 opk0t100
theorem opk0h68 : opk0t68.check (okKD Try.prog opkKn opkDer [3, 4, 5, 6] opkET 100000 60 7 (opkArgs true)) opk0k48n = true := check_same (Ky := opk0k68y) (Kn := opk0k68n) (i := ⟨-9223372036854775808, 9223372036854775807, [2, 6, 1]⟩) (by kernel_rfl) (by kernel_rfl) (by kernel_rfl) (.inr opk0h69) (.inr opk0h100)
def opk0t48 : DT := .same 0 (2) opk0t49 opk0t68
theorem opk0h48 : opk0t48.check (okKD Try.prog opkKn opkDer [3, 4, 5, 6] opkET 100000 60 7 (opkArgs true)) opk0k32n = true := check_same (Ky := opk0k48y) (Kn := opk0k48n) (i := ⟨-9223372036854775808, 9223372036854775807, [6, 1]⟩) (by kernel_rfl) (by kernel_rfl) (by kernel_rfl) (.inr opk0h49) (.inr opk0h68)
def opk0t32 : DT := .same 0 (6) opk0t33 opk0t48
theorem opk0h32 : opk0t32.check (okKD Try.prog opkKn opkDer [3, 4, 5, 6] opkET 100000 60 7 (opkArgs true)) opk0k16n = true := check_same (Ky := opk0k32y) (Kn := opk0k32n) (i := ⟨-9223372036854775808, 9223372036854775807, [1]⟩) (by kernel_rfl) (by kernel_rfl) (by kernel_rfl) (.inr opk0h33) (.inr opk0h48)
def opk0t16 : DT := .same 0 (1) opk0t17 opk0t32
theorem opk0h16 : opk0t16.check (okKD Try.prog opkKn opkDer [3, 4, 5, 6] opkET 100000 60 7 (opkArgs true)) opk0k15y = true := check_same (Ky := opk0k16y) (Kn := opk0k16n) (i := ⟨-9223372036854775808, 9223372036854775807, []⟩) (by kernel_rfl) (by kernel_rfl) (by kernel_rfl) (.inr opk0h17) (.inr opk0h32)
theorem opk0h127 : DT.leaf.check (okKD Try.prog opkKn opkDer [3, 4, 5, 6] opkET 100000 60 7 (opkArgs true)) opk0k15n = true := check_leaf (by kernel_rfl)
def opk0t15 : DT := .less 1004 (17) opk0t16 .leaf
theorem opk0h15 : opk0t15.check (okKD Try.prog opkKn opkDer [3, 4, 5, 6] opkET 100000 60 7 (opkArgs true)) opk0k13n = true := check_less (Ky := opk0k15y) (Kn := opk0k15n) (i := ⟨1, 2000, []⟩) (by kernel_rfl) (by kernel_rfl) (by kernel_rfl) (.inr opk0h16) (.inr opk0h127)
def opk0t13 : DT := .less 1004 (1) .leaf opk0t15
theorem opk0h13 : opk0t13.check (okKD Try.prog opkKn opkDer [3, 4, 5, 6] opkET 100000 60 7 (opkArgs true)) opk0k12y = true := check_less (Ky := opk0k13y) (Kn := opk0k13n) (i := ⟨0, 2000, []⟩) (by kernel_rfl) (by kernel_rfl) (by kernel_rfl) (.inr opk0h14) (.inr opk0h15)
theorem opk0h128 : DT.leaf.check (okKD Try.prog opkKn opkDer [3, 4, 5, 6] opkET 100000 60 7 (opkArgs true)) opk0k12n = true := check_leaf (by kernel_rfl)
def opk0t12 : DT := .less 1003 (17) opk0t13 .leaf
theorem opk0h12 : opk0t12.check (okKD Try.prog opkKn opkDer [3, 4, 5, 6] opkET 100000 60 7 (opkArgs true)) opk0k10n = true := check_less (Ky := opk0k12y) (Kn := opk0k12n) (i := ⟨1, 2000, []⟩) (by kernel_rfl) (by kernel_rfl) (by kernel_rfl) (.inr opk0h13) (.inr opk0h128)
def opk0t10 : DT := .less 1003 (1) .leaf opk0t12
theorem opk0h10 : opk0t10.check (okKD Try.prog opkKn opkDer [3, 4, 5, 6] opkET 100000 60 7 (opkArgs true)) opk0k9y = true := check_less (Ky := opk0k10y) (Kn := opk0k10n) (i := ⟨0, 2000, []⟩) (by kernel_rfl) (by kernel_rfl) (by kernel_rfl) (.inr opk0h11) (.inr opk0h12)
theorem opk0h129 : DT.leaf.check (okKD Try.prog opkKn opkDer [3, 4, 5, 6] opkET 100000 60 7 (opkArgs true)) opk0k9n = true := check_leaf (by kernel_rfl)
def opk0t9 : DT := .less 2 (1099511627777) opk0t10 .leaf
theorem opk0h9 : opk0t9.check (okKD Try.prog opkKn opkDer [3, 4, 5, 6] opkET 100000 60 7 (opkArgs true)) opk0k7n = true := check_less (Ky := opk0k9y) (Kn := opk0k9n) (i := ⟨1, 9223372036854775807, []⟩) (by kernel_rfl) (by kernel_rfl) (by kernel_rfl) (.inr opk0h10) (.inr opk0h129)
def opk0t7 : DT := .less 2 (1) .leaf opk0t9
theorem opk0h7 : opk0t7.check (okKD Try.prog opkKn opkDer [3, 4, 5, 6] opkET 100000 60 7 (opkArgs true)) opk0k6y = true := check_less (Ky := opk0k7y) (Kn := opk0k7n) (i := ⟨-9223372036854775808, 9223372036854775807, []⟩) (by kernel_rfl) (by kernel_rfl) (by kernel_rfl) (.inr opk0h8) (.inr opk0h9)
theorem opk0h130 : DT.leaf.check (okKD Try.prog opkKn opkDer [3, 4, 5, 6] opkET 100000 60 7 (opkArgs true)) opk0k6n = true := check_leaf (by kernel_rfl)
def opk0t6 : DT := .less 1 (1048577) opk0t7 .leaf
theorem opk0h6 : opk0t6.check (okKD Try.prog opkKn opkDer [3, 4, 5, 6] opkET 100000 60 7 (opkArgs true)) opk0k4n = true := check_less (Ky := opk0k6y) (Kn := opk0k6n) (i := ⟨1, 9223372036854775807, []⟩) (by kernel_rfl) (by kernel_rfl) (by kernel_rfl) (.inr opk0h7) (.inr opk0h130)
def opk0t4 : DT := .less 1 (1) .leaf opk0t6
theorem opk0h4 : opk0t4.check (okKD Try.prog opkKn opkDer [3, 4, 5, 6] opkET 100000 60 7 (opkArgs true)) opk0k3y = true := check_less (Ky := opk0k4y) (Kn := opk0k4n) (i := ⟨-9223372036854775808, 9223372036854775807, []⟩) (by kernel_rfl) (by kernel_rfl) (by kernel_rfl) (.inr opk0h5) (.inr opk0h6)
theorem opk0h131 : DT.leaf.check (okKD Try.prog opkKn opkDer [3, 4, 5, 6] opkET 100000 60 7 (opkArgs true)) opk0k3n = true := check_leaf (by kernel_rfl)
def opk0t3 : DT := .less 1006 (2001) opk0t4 .leaf
theorem opk0h3 : opk0t3.check (okKD Try.prog opkKn opkDer [3, 4, 5, 6] opkET 100000 60 7 (opkArgs true)) opk0k2y = true := check_less (Ky := opk0k3y) (Kn := opk0k3n) (i := ⟨0, 9223372036854775807, []⟩) (by kernel_rfl) (by kernel_rfl) (by kernel_rfl) (.inr opk0h4) (.inr opk0h131)
theorem opk0h132 : DT.leaf.check (okKD Try.prog opkKn opkDer [3, 4, 5, 6] opkET 100000 60 7 (opkArgs true)) opk0k2n = true := check_leaf (by kernel_rfl)
def opk0t2 : DT := .less 1005 (2001) opk0t3 .leaf
theorem opk0h2 : opk0t2.check (okKD Try.prog opkKn opkDer [3, 4, 5, 6] opkET 100000 60 7 (opkArgs true)) opk0k1y = true := check_less (Ky := opk0k2y) (Kn := opk0k2n) (i := ⟨0, 9223372036854775807, []⟩) (by kernel_rfl) (by kernel_rfl) (by kernel_rfl) (.inr opk0h3) (.inr opk0h132)
theorem opk0h133 : DT.leaf.check (okKD Try.prog opkKn opkDer [3, 4, 5, 6] opkET 100000 60 7 (opkArgs true)) opk0k1n = true := check_leaf (by kernel_rfl)
def opk0t1 : DT := .less 1004 (2001) opk0t2 .leaf
theorem opk0h1 : opk0t1.check (okKD Try.prog opkKn opkDer [3, 4, 5, 6] opkET 100000 60 7 (opkArgs true)) opk0k0y = true := check_less (Ky := opk0k1y) (Kn := opk0k1n) (i := ⟨0, 9223372036854775807, []⟩) (by kernel_rfl) (by kernel_rfl) (by kernel_rfl) (.inr opk0h2) (.inr opk0h133)
theorem opk0h134 : DT.leaf.check (okKD Try.prog opkKn opkDer [3, 4, 5, 6] opkET 100000 60 7 (opkArgs true)) opk0k0n = true := check_leaf (by kernel_rfl)
def opk0t0 : DT := .less 1003 (2001) opk0t1 .leaf
theorem opk0h0 : opk0t0.check (okKD Try.prog opkKn opkDer [3, 4, 5, 6] opkET 100000 60 7 (opkArgs true)) opkKB0 = true := check_less (Ky := opk0k0y) (Kn := opk0k0n) (i := ⟨0, 9223372036854775807, []⟩) (by kernel_rfl) (by kernel_rfl) (by kernel_rfl) (.inr opk0h1) (.inr opk0h134)
theorem opkCheck0 : opk0t0.check (okKD Try.prog opkKn opkDer [3, 4, 5, 6] opkET 100000 60 7 (opkArgs true)) (opkKB ⟨0, 0, []⟩ ⟨1099511627776, 1099511627776, []⟩) = true := opk0h0
end Go.Proofs.Ytliljfncbljfpaa
