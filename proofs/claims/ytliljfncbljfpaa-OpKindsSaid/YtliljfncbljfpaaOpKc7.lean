/- OpKinds: tree 7. -/
import Derived.Test.YtliljfncbljfpaaOpKa
import Derived.ProofKit
namespace Go.Proofs.Ytliljfncbljfpaa
open Go.RowKit
set_option linter.unusedVariables false
set_option linter.unusedSimpArgs false
set_option maxRecDepth 100000

def opkKB7 : KB := opkKB ⟨1099511627777, 9223372036854775807, []⟩ opkBig
def opk7k0y : KB := opkKB7.put 1003 ⟨0, 2000, []⟩
def opk7k0n : KB := opkKB7.put 1003 ⟨2001, 9223372036854775807, []⟩
def opk7k1y : KB := opk7k0y.put 1004 ⟨0, 2000, []⟩
def opk7k1n : KB := opk7k0y.put 1004 ⟨2001, 9223372036854775807, []⟩
def opk7k2y : KB := opk7k1y.put 1005 ⟨0, 2000, []⟩
def opk7k2n : KB := opk7k1y.put 1005 ⟨2001, 9223372036854775807, []⟩
def opk7k3y : KB := opk7k2y.put 1006 ⟨0, 2000, []⟩
def opk7k3n : KB := opk7k2y.put 1006 ⟨2001, 9223372036854775807, []⟩
def opk7k4y : KB := opk7k3y.put 1 ⟨-9223372036854775808, 0, []⟩
def opk7k4n : KB := opk7k3y.put 1 ⟨1, 9223372036854775807, []⟩
theorem opk7h5 : DT.leaf.check (okKD Try.prog opkKn opkDer [3, 4, 5, 6] opkET 100000 60 7 (opkArgs false)) opk7k4y = true := check_leaf (by kernel_rfl)
def opk7k6y : KB := opk7k4n.put 1 ⟨1, 1048576, []⟩
def opk7k6n : KB := opk7k4n.put 1 ⟨1048577, 9223372036854775807, []⟩
def opk7k7y : KB := opk7k6y.put 2 ⟨-9223372036854775808, 0, []⟩
def opk7k7n : KB := opk7k6y.put 2 ⟨1, 9223372036854775807, []⟩
theorem opk7h8 : DT.leaf.check (okKD Try.prog opkKn opkDer [3, 4, 5, 6] opkET 100000 60 7 (opkArgs false)) opk7k7y = true := check_leaf (by kernel_rfl)
def opk7k9y : KB := opk7k7n.put 2 ⟨1, 1099511627776, []⟩
def opk7k9n : KB := opk7k7n.put 2 ⟨1099511627777, 9223372036854775807, []⟩
def opk7k10y : KB := opk7k9y.put 1003 ⟨0, 0, []⟩
def opk7k10n : KB := opk7k9y.put 1003 ⟨1, 2000, []⟩
theorem opk7h11 : DT.leaf.check (okKD Try.prog opkKn opkDer [3, 4, 5, 6] opkET 100000 60 7 (opkArgs false)) opk7k10y = true := check_leaf (by kernel_rfl)
def opk7k12y : KB := opk7k10n.put 1003 ⟨1, 16, []⟩
def opk7k12n : KB := opk7k10n.put 1003 ⟨17, 2000, []⟩
def opk7k13y : KB := opk7k12y.put 1004 ⟨0, 0, []⟩
def opk7k13n : KB := opk7k12y.put 1004 ⟨1, 2000, []⟩
theorem opk7h14 : DT.leaf.check (okKD Try.prog opkKn opkDer [3, 4, 5, 6] opkET 100000 60 7 (opkArgs false)) opk7k13y = true := check_leaf (by kernel_rfl)
def opk7k15y : KB := opk7k13n.put 1004 ⟨1, 16, []⟩
def opk7k15n : KB := opk7k13n.put 1004 ⟨17, 2000, []⟩
def opk7k16y : KB := opk7k15y.put 0 ⟨1, 1, []⟩
def opk7k16n : KB := opk7k15y.put 0 ⟨-9223372036854775808, 9223372036854775807, [1]⟩
def opk7k17y : KB := opk7k16y.put 7 ⟨-9223372036854775808, -1, []⟩
def opk7k17n : KB := opk7k16y.put 7 ⟨0, 9223372036854775807, []⟩
theorem opk7h18 : DT.leaf.check (okKD Try.prog opkKn opkDer [3, 4, 5, 6] opkET 100000 60 7 (opkArgs false)) opk7k17y = true := check_leaf (by kernel_rfl)
def opk7k19y : KB := opk7k17n.put 7 ⟨0, 3, []⟩
def opk7k19n : KB := opk7k17n.put 7 ⟨4, 9223372036854775807, []⟩
def opk7k20y : KB := opk7k19y.put 8 ⟨-9223372036854775808, 0, []⟩
def opk7k20n : KB := opk7k19y.put 8 ⟨1, 9223372036854775807, []⟩
theorem opk7h21 : DT.leaf.check (okKD Try.prog opkKn opkDer [3, 4, 5, 6] opkET 100000 60 7 (opkArgs false)) opk7k20y = true := check_leaf (by kernel_rfl)
def opk7k22y : KB := opk7k20n.put 8 ⟨1, 1048576, []⟩
def opk7k22n : KB := opk7k20n.put 8 ⟨1048577, 9223372036854775807, []⟩
def opk7k23y : KB := opk7k22y.put 1005 ⟨0, 0, []⟩
def opk7k23n : KB := opk7k22y.put 1005 ⟨1, 2000, []⟩
def opk7k24y : KB := opk7k23y.put 1006 ⟨0, 0, []⟩
def opk7k24n : KB := opk7k23y.put 1006 ⟨1, 2000, []⟩
def opk7k25y : KB := opk7k24y.put 9 ⟨0, 0, []⟩
def opk7k25n : KB := opk7k24y.put 9 ⟨-9223372036854775808, 9223372036854775807, [0]⟩
theorem opk7h26 : DT.leaf.check (okKD Try.prog opkKn opkDer [3, 4, 5, 6] opkET 100000 60 7 (opkArgs false)) opk7k25y = true := check_leaf (by kernel_rfl)
theorem opk7h27 : DT.leaf.check (okKD Try.prog opkKn opkDer [3, 4, 5, 6] opkET 100000 60 7 (opkArgs false)) opk7k25n = true := check_leaf (by kernel_rfl)
def opk7t25 : DT := .same 9 (0) .leaf .leaf
theorem opk7h25 : opk7t25.check (okKD Try.prog opkKn opkDer [3, 4, 5, 6] opkET 100000 60 7 (opkArgs false)) opk7k24y = true := check_same (Ky := opk7k25y) (Kn := opk7k25n) (i := ⟨-9223372036854775808, 9223372036854775807, []⟩) (by kernel_rfl) (by kernel_rfl) (by kernel_rfl) (.inr opk7h26) (.inr opk7h27)
theorem opk7h28 : DT.leaf.check (okKD Try.prog opkKn opkDer [3, 4, 5, 6] opkET 100000 60 7 (opkArgs false)) opk7k24n = true := check_leaf (by kernel_rfl)
def opk7t24 : DT := .same 1006 (0) opk7t25 .leaf
theorem opk7h24 : opk7t24.check (okKD Try.prog opkKn opkDer [3, 4, 5, 6] opkET 100000 60 7 (opkArgs false)) opk7k23y = true := check_same (Ky := opk7k24y) (Kn := opk7k24n) (i := ⟨0, 2000, []⟩) (by kernel_rfl) (by kernel_rfl) (by kernel_rfl) (.inr opk7h25) (.inr opk7h28)
theorem opk7h29 : DT.leaf.check (okKD Try.prog opkKn opkDer [3, 4, 5, 6] opkET 100000 60 7 (opkArgs false)) opk7k23n = true := check_leaf (by kernel_rfl)
def opk7t23 : DT := .same 1005 (0) opk7t24 .leaf
theorem opk7h23 : opk7t23.check (okKD Try.prog opkKn opkDer [3, 4, 5, 6] opkET 100000 60 7 (opkArgs false)) opk7k22y = true := check_same (Ky := opk7k23y) (Kn := opk7k23n) (i := ⟨0, 2000, []⟩) (by kernel_rfl) (by kernel_rfl) (by kernel_rfl) (.inr opk7h24) (.inr opk7h29)
theorem opk7h30 : DT.leaf.check (okKD Try.prog opkKn opkDer [3, 4, 5, 6] opkET 100000 60 7 (opkArgs false)) opk7k22n = true := check_leaf (by kernel_rfl)
def opk7t22 : DT := .less 8 (1048577) opk7t23 .leaf
theorem opk7h22 : opk7t22.check (okKD Try.prog opkKn opkDer [3, 4, 5, 6] opkET 100000 60 7 (opkArgs false)) opk7k20n = true := check_less (Ky := opk7k22y) (Kn := opk7k22n) (i := ⟨1, 9223372036854775807, []⟩) (by kernel_rfl) (by kernel_rfl) (by kernel_rfl) (.inr opk7h23) (.inr opk7h30)
def opk7t20 : DT := .less 8 (1) .leaf opk7t22
theorem opk7h20 : opk7t20.check (okKD Try.prog opkKn opkDer [3, 4, 5, 6] opkET 100000 60 7 (opkArgs false)) opk7k19y = true := check_less (Ky := opk7k20y) (Kn := opk7k20n) (i := ⟨-9223372036854775808, 9223372036854775807, []⟩) (by kernel_rfl) (by kernel_rfl) (by kernel_rfl) (.inr opk7h21) (.inr opk7h22)
theorem opk7h31 : DT.leaf.check (okKD Try.prog opkKn opkDer [3, 4, 5, 6] opkET 100000 60 7 (opkArgs false)) opk7k19n = true := check_leaf (by kernel_rfl)
def opk7t19 : DT := .less 7 (4) opk7t20 .leaf
theorem opk7h19 : opk7t19.check (okKD Try.prog opkKn opkDer [3, 4, 5, 6] opkET 100000 60 7 (opkArgs false)) opk7k17n = true := check_less (Ky := opk7k19y) (Kn := opk7k19n) (i := ⟨0, 9223372036854775807, []⟩) (by kernel_rfl) (by kernel_rfl) (by kernel_rfl) (.inr opk7h20) (.inr opk7h31)
def opk7t17 : DT := .less 7 (0) .leaf opk7t19
theorem opk7h17 : opk7t17.check (okKD Try.prog opkKn opkDer [3, 4, 5, 6] opkET 100000 60 7 (opkArgs false)) opk7k16y = true := check_less (Ky := opk7k17y) (Kn := opk7k17n) (i := ⟨-9223372036854775808, 9223372036854775807, []⟩) (by kernel_rfl) (by kernel_rfl) (by kernel_rfl) (.inr opk7h18) (.inr opk7h19)
def opk7k32y : KB := opk7k16n.put 0 ⟨6, 6, [1]⟩
def opk7k32n : KB := opk7k16n.put 0 ⟨-9223372036854775808, 9223372036854775807, [6, 1]⟩
def opk7k33y : KB := opk7k32y.put 7 ⟨-9223372036854775808, -1, []⟩
def opk7k33n : KB := opk7k32y.put 7 ⟨0, 9223372036854775807, []⟩
theorem opk7h34 : DT.leaf.check (okKD Try.prog opkKn opkDer [3, 4, 5, 6] opkET 100000 60 7 (opkArgs false)) opk7k33y = true := check_leaf (by kernel_rfl)
def opk7k35y : KB := opk7k33n.put 7 ⟨0, 3, []⟩
def opk7k35n : KB := opk7k33n.put 7 ⟨4, 9223372036854775807, []⟩
def opk7k36y : KB := opk7k35y.put 8 ⟨-9223372036854775808, 0, []⟩
def opk7k36n : KB := opk7k35y.put 8 ⟨1, 9223372036854775807, []⟩
theorem opk7h37 : DT.leaf.check (okKD Try.prog opkKn opkDer [3, 4, 5, 6] opkET 100000 60 7 (opkArgs false)) opk7k36y = true := check_leaf (by kernel_rfl)
def opk7k38y : KB := opk7k36n.put 8 ⟨1, 1048576, []⟩
def opk7k38n : KB := opk7k36n.put 8 ⟨1048577, 9223372036854775807, []⟩
def opk7k39y : KB := opk7k38y.put 1005 ⟨0, 0, []⟩
def opk7k39n : KB := opk7k38y.put 1005 ⟨1, 2000, []⟩
def opk7k40y : KB := opk7k39y.put 1006 ⟨0, 0, []⟩
def opk7k40n : KB := opk7k39y.put 1006 ⟨1, 2000, []⟩
def opk7k41y : KB := opk7k40y.put 9 ⟨0, 0, []⟩
def opk7k41n : KB := opk7k40y.put 9 ⟨-9223372036854775808, 9223372036854775807, [0]⟩
theorem opk7h42 : DT.leaf.check (okKD Try.prog opkKn opkDer [3, 4, 5, 6] opkET 100000 60 7 (opkArgs false)) opk7k41y = true := check_leaf (by kernel_rfl)
theorem opk7h43 : DT.leaf.check (okKD Try.prog opkKn opkDer [3, 4, 5, 6] opkET 100000 60 7 (opkArgs false)) opk7k41n = true := check_leaf (by kernel_rfl)
def opk7t41 : DT := .same 9 (0) .leaf .leaf
theorem opk7h41 : opk7t41.check (okKD Try.prog opkKn opkDer [3, 4, 5, 6] opkET 100000 60 7 (opkArgs false)) opk7k40y = true := check_same (Ky := opk7k41y) (Kn := opk7k41n) (i := ⟨-9223372036854775808, 9223372036854775807, []⟩) (by kernel_rfl) (by kernel_rfl) (by kernel_rfl) (.inr opk7h42) (.inr opk7h43)
theorem opk7h44 : DT.leaf.check (okKD Try.prog opkKn opkDer [3, 4, 5, 6] opkET 100000 60 7 (opkArgs false)) opk7k40n = true := check_leaf (by kernel_rfl)
def opk7t40 : DT := .same 1006 (0) opk7t41 .leaf
theorem opk7h40 : opk7t40.check (okKD Try.prog opkKn opkDer [3, 4, 5, 6] opkET 100000 60 7 (opkArgs false)) opk7k39y = true := check_same (Ky := opk7k40y) (Kn := opk7k40n) (i := ⟨0, 2000, []⟩) (by kernel_rfl) (by kernel_rfl) (by kernel_rfl) (.inr opk7h41) (.inr opk7h44)
theorem opk7h45 : DT.leaf.check (okKD Try.prog opkKn opkDer [3, 4, 5, 6] opkET 100000 60 7 (opkArgs false)) opk7k39n = true := check_leaf (by kernel_rfl)
def opk7t39 : DT := .same 1005 (0) opk7t40 .leaf
theorem opk7h39 : opk7t39.check (okKD Try.prog opkKn opkDer [3, 4, 5, 6] opkET 100000 60 7 (opkArgs false)) opk7k38y = true := check_same (Ky := opk7k39y) (Kn := opk7k39n) (i := ⟨0, 2000, []⟩) (by kernel_rfl) (by kernel_rfl) (by kernel_rfl) (.inr opk7h40) (.inr opk7h45)
theorem opk7h46 : DT.leaf.check (okKD Try.prog opkKn opkDer [3, 4, 5, 6] opkET 100000 60 7 (opkArgs false)) opk7k38n = true := check_leaf (by kernel_rfl)
def opk7t38 : DT := .less 8 (1048577) opk7t39 .leaf
theorem opk7h38 : opk7t38.check (okKD Try.prog opkKn opkDer [3, 4, 5, 6] opkET 100000 60 7 (opkArgs false)) opk7k36n = true := check_less (Ky := opk7k38y) (Kn := opk7k38n) (i := ⟨1, 9223372036854775807, []⟩) (by kernel_rfl) (by kernel_rfl) (by kernel_rfl) (.inr opk7h39) (.inr opk7h46)
def opk7t36 : DT := .less 8 (1) .leaf opk7t38
theorem opk7h36 : opk7t36.check (okKD Try.prog opkKn opkDer [3, 4, 5, 6] opkET 100000 60 7 (opkArgs false)) opk7k35y = true := check_less (Ky := opk7k36y) (Kn := opk7k36n) (i := ⟨-9223372036854775808, 9223372036854775807, []⟩) (by kernel_rfl) (by kernel_rfl) (by kernel_rfl) (.inr opk7h37) (.inr opk7h38)
theorem opk7h47 : DT.leaf.check (okKD Try.prog opkKn opkDer [3, 4, 5, 6] opkET 100000 60 7 (opkArgs false)) opk7k35n = true := check_leaf (by kernel_rfl)
def opk7t35 : DT := .less 7 (4) opk7t36 .leaf
theorem opk7h35 : opk7t35.check (okKD Try.prog opkKn opkDer [3, 4, 5, 6] opkET 100000 60 7 (opkArgs false)) opk7k33n = true := check_less (Ky := opk7k35y) (Kn := opk7k35n) (i := ⟨0, 9223372036854775807, []⟩) (by kernel_rfl) (by kernel_rfl) (by kernel_rfl) (.inr opk7h36) (.inr opk7h47)
def opk7t33 : DT := .less 7 (0) .leaf opk7t35
theorem opk7h33 : opk7t33.check (okKD Try.prog opkKn opkDer [3, 4, 5, 6] opkET 100000 60 7 (opkArgs false)) opk7k32y = true := check_less (Ky := opk7k33y) (Kn := opk7k33n) (i := ⟨-9223372036854775808, 9223372036854775807, []⟩) (by kernel_rfl) (by kernel_rfl) (by kernel_rfl) (.inr opk7h34) (.inr opk7h35)
def opk7k48y : KB := opk7k32n.put 0 ⟨2, 2, [6, 1]⟩
def opk7k48n : KB := opk7k32n.put 0 ⟨-9223372036854775808, 9223372036854775807, [2, 6, 1]⟩
def opk7k49y : KB := opk7k48y.put 7 ⟨-9223372036854775808, -1, []⟩
def opk7k49n : KB := opk7k48y.put 7 ⟨0, 9223372036854775807, []⟩
theorem opk7h50 : DT.leaf.check (okKD Try.prog opkKn opkDer [3, 4, 5, 6] opkET 100000 60 7 (opkArgs false)) opk7k49y = true := check_leaf (by kernel_rfl)
def opk7k51y : KB := opk7k49n.put 7 ⟨0, 3, []⟩
def opk7k51n : KB := opk7k49n.put 7 ⟨4, 9223372036854775807, []⟩
def opk7k52y : KB := opk7k51y.put 8 ⟨-9223372036854775808, 0, []⟩
def opk7k52n : KB := opk7k51y.put 8 ⟨1, 9223372036854775807, []⟩
theorem opk7h53 : DT.leaf.check (okKD Try.prog opkKn opkDer [3, 4, 5, 6] opkET 100000 60 7 (opkArgs false)) opk7k52y = true := check_leaf (by kernel_rfl)
def opk7k54y : KB := opk7k52n.put 8 ⟨1, 1048576, []⟩
def opk7k54n : KB := opk7k52n.put 8 ⟨1048577, 9223372036854775807, []⟩
def opk7k55y : KB := opk7k54y.put 1005 ⟨0, 0, []⟩
def opk7k55n : KB := opk7k54y.put 1005 ⟨1, 2000, []⟩
theorem opk7h56 : DT.leaf.check (okKD Try.prog opkKn opkDer [3, 4, 5, 6] opkET 100000 60 7 (opkArgs false)) opk7k55y = true := check_leaf (by kernel_rfl)
def opk7k57y : KB := opk7k55n.put 1005 ⟨1, 16, []⟩
def opk7k57n : KB := opk7k55n.put 1005 ⟨17, 2000, []⟩
def opk7k58y : KB := opk7k57y.put 1006 ⟨0, 0, []⟩
def opk7k58n : KB := opk7k57y.put 1006 ⟨1, 2000, []⟩
theorem opk7h59 : DT.leaf.check (okKD Try.prog opkKn opkDer [3, 4, 5, 6] opkET 100000 60 7 (opkArgs false)) opk7k58y = true := check_leaf (by kernel_rfl)
def opk7k60y : KB := opk7k58n.put 1006 ⟨1, 16, []⟩
def opk7k60n : KB := opk7k58n.put 1006 ⟨17, 2000, []⟩
def opk7k61y : KB := opk7k60y.put 9 ⟨0, 0, []⟩
def opk7k61n : KB := opk7k60y.put 9 ⟨-9223372036854775808, 9223372036854775807, [0]⟩
theorem opk7h62 : DT.leaf.check (okKD Try.prog opkKn opkDer [3, 4, 5, 6] opkET 100000 60 7 (opkArgs false)) opk7k61y = true := check_leaf (by kernel_rfl)
theorem opk7h63 : DT.leaf.check (okKD Try.prog opkKn opkDer [3, 4, 5, 6] opkET 100000 60 7 (opkArgs false)) opk7k61n = true := check_leaf (by kernel_rfl)
def opk7t61 : DT := .same 9 (0) .leaf .leaf
theorem opk7h61 : opk7t61.check (okKD Try.prog opkKn opkDer [3, 4, 5, 6] opkET 100000 60 7 (opkArgs false)) opk7k60y = true := check_same (Ky := opk7k61y) (Kn := opk7k61n) (i := ⟨-9223372036854775808, 9223372036854775807, []⟩) (by kernel_rfl) (by kernel_rfl) (by kernel_rfl) (.inr opk7h62) (.inr opk7h63)
theorem opk7h64 : DT.leaf.check (okKD Try.prog opkKn opkDer [3, 4, 5, 6] opkET 100000 60 7 (opkArgs false)) opk7k60n = true := check_leaf (by kernel_rfl)
def opk7t60 : DT := .less 1006 (17) opk7t61 .leaf
theorem opk7h60 : opk7t60.check (okKD Try.prog opkKn opkDer [3, 4, 5, 6] opkET 100000 60 7 (opkArgs false)) opk7k58n = true := check_less (Ky := opk7k60y) (Kn := opk7k60n) (i := ⟨1, 2000, []⟩) (by kernel_rfl) (by kernel_rfl) (by kernel_rfl) (.inr opk7h61) (.inr opk7h64)
def opk7t58 : DT := .less 1006 (1) .leaf opk7t60
theorem opk7h58 : opk7t58.check (okKD Try.prog opkKn opkDer [3, 4, 5, 6] opkET 100000 60 7 (opkArgs false)) opk7k57y = true := check_less (Ky := opk7k58y) (Kn := opk7k58n) (i := ⟨0, 2000, []⟩) (by kernel_rfl) (by kernel_rfl) (by kernel_rfl) (.inr opk7h59) (.inr opk7h60)
theorem opk7h65 : DT.leaf.check (okKD Try.prog opkKn opkDer [3, 4, 5, 6] opkET 100000 60 7 (opkArgs false)) opk7k57n = true := check_leaf (by kernel_rfl)
def opk7t57 : DT := .less 1005 (17) opk7t58 .leaf
theorem opk7h57 : opk7t57.check (okKD Try.prog opkKn opkDer [3, 4, 5, 6] opkET 100000 60 7 (opkArgs false)) opk7k55n = true := check_less (Ky := opk7k57y) (Kn := opk7k57n) (i := ⟨1, 2000, []⟩) (by kernel_rfl) (by kernel_rfl) (by kernel_rfl) (.inr opk7h58) (.inr opk7h65)
def opk7t55 : DT := .less 1005 (1) .leaf opk7t57
theorem opk7h55 : opk7t55.check (okKD Try.prog opkKn opkDer [3, 4, 5, 6] opkET 100000 60 7 (opkArgs false)) opk7k54y = true := check_less (Ky := opk7k55y) (Kn := opk7k55n) (i := ⟨0, 2000, []⟩) (by kernel_rfl) (by kernel_rfl) (by kernel_rfl) (.inr opk7h56) (.inr opk7h57)
theorem opk7h66 : DT.leaf.check (okKD Try.prog opkKn opkDer [3, 4, 5, 6] opkET 100000 60 7 (opkArgs false)) opk7k54n = true := check_leaf (by kernel_rfl)
def opk7t54 : DT := .less 8 (1048577) opk7t55 .leaf
theorem opk7h54 : opk7t54.check (okKD Try.prog opkKn opkDer [3, 4, 5, 6] opkET 100000 60 7 (opkArgs false)) opk7k52n = true := check_less (Ky := opk7k54y) (Kn := opk7k54n) (i := ⟨1, 9223372036854775807, []⟩) (by kernel_rfl) (by kernel_rfl) (by kernel_rfl) (.inr opk7h55) (.inr opk7h66)
def opk7t52 : DT := .less 8 (1) .leaf opk7t54
theorem opk7h52 : opk7t52.check (okKD Try.prog opkKn opkDer [3, 4, 5, 6] opkET 100000 60 7 (opkArgs false)) opk7k51y = true := check_less (Ky := opk7k52y) (Kn := opk7k52n) (i := ⟨-9223372036854775808, 9223372036854775807, []⟩) (by kernel_rfl) (by kernel_rfl) (by kernel_rfl) (.inr opk7h53) (.inr opk7h54)
theorem opk7h67 : DT.leaf.check (okKD Try.prog opkKn opkDer [3, 4, 5, 6] opkET 100000 60 7 (opkArgs false)) opk7k51n = true := check_leaf (by kernel_rfl)
def opk7t51 : DT := .less 7 (4) opk7t52 .leaf
theorem opk7h51 : opk7t51.check (okKD Try.prog opkKn opkDer [3, 4, 5, 6] opkET 100000 60 7 (opkArgs false)) opk7k49n = true := check_less (Ky := opk7k51y) (Kn := opk7k51n) (i := ⟨0, 9223372036854775807, []⟩) (by kernel_rfl) (by kernel_rfl) (by kernel_rfl) (.inr opk7h52) (.inr opk7h67)
def opk7t49 : DT := .less 7 (0) .leaf opk7t51
theorem opk7h49 : opk7t49.check (okKD Try.prog opkKn opkDer [3, 4, 5, 6] opkET 100000 60 7 (opkArgs false)) opk7k48y = true := check_less (Ky := opk7k49y) (Kn := opk7k49n) (i := ⟨-9223372036854775808, 9223372036854775807, []⟩) (by kernel_rfl) (by kernel_rfl) (by kernel_rfl) (.inr opk7h50) (.inr opk7h51)
def opk7k68y : KB := opk7k48n.put 0 ⟨3, 3, [2, 6, 1]⟩
def opk7k68n : KB := opk7k48n.put 0 ⟨-9223372036854775808, 9223372036854775807, [3, 2, 6, 1]⟩
def opk7k69y : KB := opk7k68y.put 7 ⟨-9223372036854775808, 0, []⟩
def opk7k69n : KB := opk7k68y.put 7 ⟨1, 9223372036854775807, []⟩
theorem opk7h70 : DT.leaf.check (okKD Try.prog opkKn opkDer [3, 4, 5, 6] opkET 100000 60 7 (opkArgs false)) opk7k69y = true := check_leaf (by kernel_rfl)
def opk7k71y : KB := opk7k69n.put 7 ⟨1, 3, []⟩
def opk7k71n : KB := opk7k69n.put 7 ⟨4, 9223372036854775807, []⟩
def opk7k72y : KB := opk7k71y.put 8 ⟨-9223372036854775808, 0, []⟩
def opk7k72n : KB := opk7k71y.put 8 ⟨1, 9223372036854775807, []⟩
theorem opk7h73 : DT.leaf.check (okKD Try.prog opkKn opkDer [3, 4, 5, 6] opkET 100000 60 7 (opkArgs false)) opk7k72y = true := check_leaf (by kernel_rfl)
def opk7k74y : KB := opk7k72n.put 8 ⟨1, 1048576, []⟩
def opk7k74n : KB := opk7k72n.put 8 ⟨1048577, 9223372036854775807, []⟩
def opk7k75y : KB := opk7k74y.put 9 ⟨-9223372036854775808, 0, []⟩
def opk7k75n : KB := opk7k74y.put 9 ⟨1, 9223372036854775807, []⟩
theorem opk7h76 : DT.leaf.check (okKD Try.prog opkKn opkDer [3, 4, 5, 6] opkET 100000 60 7 (opkArgs false)) opk7k75y = true := check_leaf (by kernel_rfl)
def opk7k77y : KB := opk7k75n.put 9 ⟨1, 1024, []⟩
def opk7k77n : KB := opk7k75n.put 9 ⟨1025, 9223372036854775807, []⟩
def opk7k78y : KB := opk7k77y.put 1005 ⟨0, 0, []⟩
def opk7k78n : KB := opk7k77y.put 1005 ⟨1, 2000, []⟩
def opk7k79y : KB := opk7k78y.put 1006 ⟨0, 0, []⟩
def opk7k79n : KB := opk7k78y.put 1006 ⟨1, 2000, []⟩
theorem opk7h80 : DT.leaf.check (okKD Try.prog opkKn opkDer [3, 4, 5, 6] opkET 100000 60 7 (opkArgs false)) opk7k79y = true := check_leaf (by kernel_rfl)
theorem opk7h81 : DT.leaf.check (okKD Try.prog opkKn opkDer [3, 4, 5, 6] opkET 100000 60 7 (opkArgs false)) opk7k79n = true := check_leaf (by kernel_rfl)
def opk7t79 : DT := .same 1006 (0) .leaf .leaf
theorem opk7h79 : opk7t79.check (okKD Try.prog opkKn opkDer [3, 4, 5, 6] opkET 100000 60 7 (opkArgs false)) opk7k78y = true := check_same (Ky := opk7k79y) (Kn := opk7k79n) (i := ⟨0, 2000, []⟩) (by kernel_rfl) (by kernel_rfl) (by kernel_rfl) (.inr opk7h80) (.inr opk7h81)
theorem opk7h82 : DT.leaf.check (okKD Try.prog opkKn opkDer [3, 4, 5, 6] opkET 100000 60 7 (opkArgs false)) opk7k78n = true := check_leaf (by kernel_rfl)
def opk7t78 : DT := .same 1005 (0) opk7t79 .leaf
theorem opk7h78 : opk7t78.check (okKD Try.prog opkKn opkDer [3, 4, 5, 6] opkET 100000 60 7 (opkArgs false)) opk7k77y = true := check_same (Ky := opk7k78y) (Kn := opk7k78n) (i := ⟨0, 2000, []⟩) (by kernel_rfl) (by kernel_rfl) (by kernel_rfl) (.inr opk7h79) (.inr opk7h82)
theorem opk7h83 : DT.leaf.check (okKD Try.prog opkKn opkDer [3, 4, 5, 6] opkET 100000 60 7 (opkArgs false)) opk7k77n = true := check_leaf (by kernel_rfl)
def opk7t77 : DT := .less 9 (1025) opk7t78 .leaf
theorem opk7h77 : opk7t77.check (okKD Try.prog opkKn opkDer [3, 4, 5, 6] opkET 100000 60 7 (opkArgs false)) opk7k75n = true := check_less (Ky := opk7k77y) (Kn := opk7k77n) (i := ⟨1, 9223372036854775807, []⟩) (by kernel_rfl) (by kernel_rfl) (by kernel_rfl) (.inr opk7h78) (.inr opk7h83)
def opk7t75 : DT := .less 9 (1) .leaf opk7t77
theorem opk7h75 : opk7t75.check (okKD Try.prog opkKn opkDer [3, 4, 5, 6] opkET 100000 60 7 (opkArgs false)) opk7k74y = true := check_less (Ky := opk7k75y) (Kn := opk7k75n) (i := ⟨-9223372036854775808, 9223372036854775807, []⟩) (by kernel_rfl) (by kernel_rfl) (by kernel_rfl) (.inr opk7h76) (.inr opk7h77)
theorem opk7h84 : DT.leaf.check (okKD Try.prog opkKn opkDer [3, 4, 5, 6] opkET 100000 60 7 (opkArgs false)) opk7k74n = true := check_leaf (by kernel_rfl)
def opk7t74 : DT := .less 8 (1048577) opk7t75 .leaf
theorem opk7h74 : opk7t74.check (okKD Try.prog opkKn opkDer [3, 4, 5, 6] opkET 100000 60 7 (opkArgs false)) opk7k72n = true := check_less (Ky := opk7k74y) (Kn := opk7k74n) (i := ⟨1, 9223372036854775807, []⟩) (by kernel_rfl) (by kernel_rfl) (by kernel_rfl) (.inr opk7h75) (.inr opk7h84)
def opk7t72 : DT := .less 8 (1) .leaf opk7t74
theorem opk7h72 : opk7t72.check (okKD Try.prog opkKn opkDer [3, 4, 5, 6] opkET 100000 60 7 (opkArgs false)) opk7k71y = true := check_less (Ky := opk7k72y) (Kn := opk7k72n) (i := ⟨-9223372036854775808, 9223372036854775807, []⟩) (by kernel_rfl) (by kernel_rfl) (by kernel_rfl) (.inr opk7h73) (.inr opk7h74)
theorem opk7h85 : DT.leaf.check (okKD Try.prog opkKn opkDer [3, 4, 5, 6] opkET 100000 60 7 (opkArgs false)) opk7k71n = true := check_leaf (by kernel_rfl)
def opk7t71 : DT := .less 7 (4) opk7t72 .leaf
theorem opk7h71 : opk7t71.check (okKD Try.prog opkKn opkDer [3, 4, 5, 6] opkET 100000 60 7 (opkArgs false)) opk7k69n = true := check_less (Ky := opk7k71y) (Kn := opk7k71n) (i := ⟨1, 9223372036854775807, []⟩) (by kernel_rfl) (by kernel_rfl) (by kernel_rfl) (.inr opk7h72) (.inr opk7h85)
def opk7t69 : DT := .less 7 (1) .leaf opk7t71
theorem opk7h69 : opk7t69.check (okKD Try.prog opkKn opkDer [3, 4, 5, 6] opkET 100000 60 7 (opkArgs false)) opk7k68y = true := check_less (Ky := opk7k69y) (Kn := opk7k69n) (i := ⟨-9223372036854775808, 9223372036854775807, []⟩) (by kernel_rfl) (by kernel_rfl) (by kernel_rfl) (.inr opk7h70) (.inr opk7h71)
def opk7k86y : KB := opk7k68n.put 0 ⟨4, 4, [3, 2, 6, 1]⟩
def opk7k86n : KB := opk7k68n.put 0 ⟨-9223372036854775808, 9223372036854775807, [4, 3, 2, 6, 1]⟩
theorem opk7h87 : DT.leaf.check (okKD Try.prog opkKn opkDer [3, 4, 5, 6] opkET 100000 60 7 (opkArgs false)) opk7k86y = true := check_leaf (by kernel_rfl)
def opk7k88y : KB := opk7k86n.put 0 ⟨5, 5, [4, 3, 2, 6, 1]⟩
def opk7k88n : KB := opk7k86n.put 0 ⟨-9223372036854775808, 9223372036854775807, [5, 4, 3, 2, 6, 1]⟩
def opk7k89y : KB := opk7k88y.put 1005 ⟨0, 0, []⟩
def opk7k89n : KB := opk7k88y.put 1005 ⟨1, 2000, []⟩
def opk7k90y : KB := opk7k89y.put 1006 ⟨0, 0, []⟩
def opk7k90n : KB := opk7k89y.put 1006 ⟨1, 2000, []⟩
def opk7k91y : KB := opk7k90y.put 7 ⟨0, 0, []⟩
def opk7k91n : KB := opk7k90y.put 7 ⟨-9223372036854775808, 9223372036854775807, [0]⟩
def opk7k92y : KB := opk7k91y.put 8 ⟨0, 0, []⟩
def opk7k92n : KB := opk7k91y.put 8 ⟨-9223372036854775808, 9223372036854775807, [0]⟩
def opk7k93y : KB := opk7k92y.put 9 ⟨0, 0, []⟩
def opk7k93n : KB := opk7k92y.put 9 ⟨-9223372036854775808, 9223372036854775807, [0]⟩
theorem opk7h94 : DT.leaf.check (okKD Try.prog opkKn opkDer [3, 4, 5, 6] opkET 100000 60 7 (opkArgs false)) opk7k93y = true := check_leaf (by kernel_rfl)
theorem opk7h95 : DT.leaf.check (okKD Try.prog opkKn opkDer [3, 4, 5, 6] opkET 100000 60 7 (opkArgs false)) opk7k93n = true := check_leaf (by kernel_rfl)
def opk7t93 : DT := .same 9 (0) .leaf .leaf
theorem opk7h93 : opk7t93.check (okKD Try.prog opkKn opkDer [3, 4, 5, 6] opkET 100000 60 7 (opkArgs false)) opk7k92y = true := check_same (Ky := opk7k93y) (Kn := opk7k93n) (i := ⟨-9223372036854775808, 9223372036854775807, []⟩) (by kernel_rfl) (by kernel_rfl) (by kernel_rfl) (.inr opk7h94) (.inr opk7h95)
theorem opk7h96 : DT.leaf.check (okKD Try.prog opkKn opkDer [3, 4, 5, 6] opkET 100000 60 7 (opkArgs false)) opk7k92n = true := check_leaf (by kernel_rfl)
def opk7t92 : DT := .same 8 (0) opk7t93 .leaf
theorem opk7h92 : opk7t92.check (okKD Try.prog opkKn opkDer [3, 4, 5, 6] opkET 100000 60 7 (opkArgs false)) opk7k91y = true := check_same (Ky := opk7k92y) (Kn := opk7k92n) (i := ⟨-9223372036854775808, 9223372036854775807, []⟩) (by kernel_rfl) (by kernel_rfl) (by kernel_rfl) (.inr opk7h93) (.inr opk7h96)
theorem opk7h97 : DT.leaf.check (okKD Try.prog opkKn opkDer [3, 4, 5, 6] opkET 100000 60 7 (opkArgs false)) opk7k91n = true := check_leaf (by kernel_rfl)
def opk7t91 : DT := .same 7 (0) opk7t92 .leaf
theorem opk7h91 : opk7t91.check (okKD Try.prog opkKn opkDer [3, 4, 5, 6] opkET 100000 60 7 (opkArgs false)) opk7k90y = true := check_same (Ky := opk7k91y) (Kn := opk7k91n) (i := ⟨-9223372036854775808, 9223372036854775807, []⟩) (by kernel_rfl) (by kernel_rfl) (by kernel_rfl) (.inr opk7h92) (.inr opk7h97)
theorem opk7h98 : DT.leaf.check (okKD Try.prog opkKn opkDer [3, 4, 5, 6] opkET 100000 60 7 (opkArgs false)) opk7k90n = true := check_leaf (by kernel_rfl)
def opk7t90 : DT := .same 1006 (0) opk7t91 .leaf
theorem opk7h90 : opk7t90.check (okKD Try.prog opkKn opkDer [3, 4, 5, 6] opkET 100000 60 7 (opkArgs false)) opk7k89y = true := check_same (Ky := opk7k90y) (Kn := opk7k90n) (i := ⟨0, 2000, []⟩) (by kernel_rfl) (by kernel_rfl) (by kernel_rfl) (.inr opk7h91) (.inr opk7h98)
theorem opk7h99 : DT.leaf.check (okKD Try.prog opkKn opkDer [3, 4, 5, 6] opkET 100000 60 7 (opkArgs false)) opk7k89n = true := check_leaf (by kernel_rfl)
def opk7t89 : DT := .same 1005 (0) opk7t90 .leaf
theorem opk7h89 : opk7t89.check (okKD Try.prog opkKn opkDer [3, 4, 5, 6] opkET 100000 60 7 (opkArgs false)) opk7k88y = true := check_same (Ky := opk7k89y) (Kn := opk7k89n) (i := ⟨0, 2000, []⟩) (by kernel_rfl) (by kernel_rfl) (by kernel_rfl) (.inr opk7h90) (.inr opk7h99)
def opk7k100y : KB := opk7k88n.put 0 ⟨7, 7, [5, 4, 3, 2, 6, 1]⟩
def opk7k100n : KB := opk7k88n.put 0 ⟨-9223372036854775808, 9223372036854775807, [7, 5, 4, 3, 2, 6, 1]⟩
def opk7k101y : KB := opk7k100y.put 1005 ⟨0, 0, []⟩
def opk7k101n : KB := opk7k100y.put 1005 ⟨1, 2000, []⟩
def opk7k102y : KB := opk7k101y.put 1006 ⟨0, 0, []⟩
def opk7k102n : KB := opk7k101y.put 1006 ⟨1, 2000, []⟩
def opk7k103y : KB := opk7k102y.put 7 ⟨0, 0, []⟩
def opk7k103n : KB := opk7k102y.put 7 ⟨-9223372036854775808, 9223372036854775807, [0]⟩
def opk7k104y : KB := opk7k103y.put 8 ⟨0, 0, []⟩
def opk7k104n : KB := opk7k103y.put 8 ⟨-9223372036854775808, 9223372036854775807, [0]⟩
def opk7k105y : KB := opk7k104y.put 9 ⟨0, 0, []⟩
def opk7k105n : KB := opk7k104y.put 9 ⟨-9223372036854775808, 9223372036854775807, [0]⟩
theorem opk7h106 : DT.leaf.check (okKD Try.prog opkKn opkDer [3, 4, 5, 6] opkET 100000 60 7 (opkArgs false)) opk7k105y = true := check_leaf (by kernel_rfl)
theorem opk7h107 : DT.leaf.check (okKD Try.prog opkKn opkDer [3, 4, 5, 6] opkET 100000 60 7 (opkArgs false)) opk7k105n = true := check_leaf (by kernel_rfl)
def opk7t105 : DT := .same 9 (0) .leaf .leaf
theorem opk7h105 : opk7t105.check (okKD Try.prog opkKn opkDer [3, 4, 5, 6] opkET 100000 60 7 (opkArgs false)) opk7k104y = true := check_same (Ky := opk7k105y) (Kn := opk7k105n) (i := ⟨-9223372036854775808, 9223372036854775807, []⟩) (by kernel_rfl) (by kernel_rfl) (by kernel_rfl) (.inr opk7h106) (.inr opk7h107)
theorem opk7h108 : DT.leaf.check (okKD Try.prog opkKn opkDer [3, 4, 5, 6] opkET 100000 60 7 (opkArgs false)) opk7k104n = true := check_leaf (by kernel_rfl)
def opk7t104 : DT := .same 8 (0) opk7t105 .leaf
theorem opk7h104 : opk7t104.check (okKD Try.prog opkKn opkDer [3, 4, 5, 6] opkET 100000 60 7 (opkArgs false)) opk7k103y = true := check_same (Ky := opk7k104y) (Kn := opk7k104n) (i := ⟨-9223372036854775808, 9223372036854775807, []⟩) (by kernel_rfl) (by kernel_rfl) (by kernel_rfl) (.inr opk7h105) (.inr opk7h108)
theorem opk7h109 : DT.leaf.check (okKD Try.prog opkKn opkDer [3, 4, 5, 6] opkET 100000 60 7 (opkArgs false)) opk7k103n = true := check_leaf (by kernel_rfl)
def opk7t103 : DT := .same 7 (0) opk7t104 .leaf
theorem opk7h103 : opk7t103.check (okKD Try.prog opkKn opkDer [3, 4, 5, 6] opkET 100000 60 7 (opkArgs false)) opk7k102y = true := check_same (Ky := opk7k103y) (Kn := opk7k103n) (i := ⟨-9223372036854775808, 9223372036854775807, []⟩) (by kernel_rfl) (by kernel_rfl) (by kernel_rfl) (.inr opk7h104) (.inr opk7h109)
theorem opk7h110 : DT.leaf.check (okKD Try.prog opkKn opkDer [3, 4, 5, 6] opkET 100000 60 7 (opkArgs false)) opk7k102n = true := check_leaf (by kernel_rfl)
def opk7t102 : DT := .same 1006 (0) opk7t103 .leaf
theorem opk7h102 : opk7t102.check (okKD Try.prog opkKn opkDer [3, 4, 5, 6] opkET 100000 60 7 (opkArgs false)) opk7k101y = true := check_same (Ky := opk7k102y) (Kn := opk7k102n) (i := ⟨0, 2000, []⟩) (by kernel_rfl) (by kernel_rfl) (by kernel_rfl) (.inr opk7h103) (.inr opk7h110)
theorem opk7h111 : DT.leaf.check (okKD Try.prog opkKn opkDer [3, 4, 5, 6] opkET 100000 60 7 (opkArgs false)) opk7k101n = true := check_leaf (by kernel_rfl)
def opk7t101 : DT := .same 1005 (0) opk7t102 .leaf
theorem opk7h101 : opk7t101.check (okKD Try.prog opkKn opkDer [3, 4, 5, 6] opkET 100000 60 7 (opkArgs false)) opk7k100y = true := check_same (Ky := opk7k101y) (Kn := opk7k101n) (i := ⟨0, 2000, []⟩) (by kernel_rfl) (by kernel_rfl) (by kernel_rfl) (.inr opk7h102) (.inr opk7h111)
theorem opk7h112 : DT.leaf.check (okKD Try.prog opkKn opkDer [3, 4, 5, 6] opkET 100000 60 7 (opkArgs false)) opk7k100n = true := check_leaf (by kernel_rfl)
def opk7t100 : DT := .same 0 (7) opk7t101 .leaf
theorem opk7h100 : opk7t100.check (okKD Try.prog opkKn opkDer [3, 4, 5, 6] opkET 100000 60 7 (opkArgs false)) opk7k88n = true := check_same (Ky := opk7k100y) (Kn := opk7k100n) (i := ⟨-9223372036854775808, 9223372036854775807, [5, 4, 3, 2, 6, 1]⟩) (by kernel_rfl) (by kernel_rfl) (by kernel_rfl) (.inr opk7h101) (.inr opk7h112)
def opk7t88 : DT := .same 0 (5) opk7t89 opk7t100
theorem opk7h88 : opk7t88.check (okKD Try.prog opkKn opkDer [3, 4, 5, 6] opkET 100000 60 7 (opkArgs false)) opk7k86n = true := check_same (Ky := opk7k88y) (Kn := opk7k88n) (i := ⟨-9223372036854775808, 9223372036854775807, [4, 3, 2, 6, 1]⟩) (by kernel_rfl) (by kernel_rfl) (by kernel_rfl) (.inr opk7h89) (.inr opk7h100)
def opk7t86 : DT := .same 0 (4) .leaf opk7t88
theorem opk7h86 : opk7t86.check (okKD Try.prog opkKn opkDer [3, 4, 5, 6] opkET 100000 60 7 (opkArgs false)) opk7k68n = true := check_same (Ky := opk7k86y) (Kn := opk7k86n) (i := ⟨-9223372036854775808, 9223372036854775807, [3, 2, 6, 1]⟩) (by kernel_rfl) (by kernel_rfl) (by kernel_rfl) (.inr opk7h87) (.inr opk7h88)
def opk7t68 : DT := .same 0 (3) opk7t69 opk7t86
theorem opk7h68 : opk7t68.check (okKD Try.prog opkKn opkDer [3, 4, 5, 6] opkET 100000 60 7 (opkArgs false)) opk7k48n = true := check_same (Ky := opk7k68y) (Kn := opk7k68n) (i := ⟨-9223372036854775808, 9223372036854775807, [2, 6, 1]⟩) (by kernel_rfl) (by kernel_rfl) (by kernel_rfl) (.inr opk7h69) (.inr opk7h86)
def opk7t48 : DT := .same 0 (2) opk7t49 opk7t68
theorem opk7h48 : opk7t48.check (okKD Try.prog opkKn opkDer [3, 4, 5, 6] opkET 100000 60 7 (opkArgs false)) opk7k32n = true := check_same (Ky := opk7k48y) (Kn := opk7k48n) (i := ⟨-9223372036854775808, 9223372036854775807, [6, 1]⟩) (by kernel_rfl) (by kernel_rfl) (by kernel_rfl) (.inr opk7h49) (.inr opk7h68)
def opk7t32 : DT := .same 0 (6) opk7t33 opk7t48
theorem opk7h32 : opk7t32.check (okKD Try.prog opkKn opkDer [3, 4, 5, 6] opkET 100000 60 7 (opkArgs false)) opk7k16n = true := check_same (Ky := opk7k32y) (Kn := opk7k32n) (i := ⟨-9223372036854775808, 9223372036854775807, [1]⟩) (by kernel_rfl) (by kernel_rfl) (by kernel_rfl) (.inr opk7h33) (.inr opk7h48)
def opk7t16 : DT := .same 0 (1) opk7t17 opk7t32
theorem opk7h16 : opk7t16.check (okKD Try.prog opkKn opkDer [3, 4, 5, 6] opkET 100000 60 7 (opkArgs false)) opk7k15y = true := check_same (Ky := opk7k16y) (Kn := opk7k16n) (i := ⟨-9223372036854775808, 9223372036854775807, []⟩) (by kernel_rfl) (by kernel_rfl) (by kernel_rfl) (.inr opk7h17) (.inr opk7h32)
theorem opk7h113 : DT.leaf.check (okKD Try.prog opkKn opkDer [3, 4, 5, 6] opkET 100000 60 7 (opkArgs false)) opk7k15n = true := check_leaf (by kernel_rfl)
def opk7t15 : DT := .less 1004 (17) opk7t16 .leaf
theorem opk7h15 : opk7t15.check (okKD Try.prog opkKn opkDer [3, 4, 5, 6] opkET 100000 60 7 (opkArgs false)) opk7k13n = true := check_less (Ky := opk7k15y) (Kn := opk7k15n) (i := ⟨1, 2000, []⟩) (by kernel_rfl) (by kernel_rfl) (by kernel_rfl) (.inr opk7h16) (.inr opk7h113)
def opk7t13 : DT := .less 1004 (1) .leaf opk7t15
theorem opk7h13 : opk7t13.check (okKD Try.prog opkKn opkDer [3, 4, 5, 6] opkET 100000 60 7 (opkArgs false)) opk7k12y = true := check_less (Ky := opk7k13y) (Kn := opk7k13n) (i := ⟨0, 2000, []⟩) (by kernel_rfl) (by kernel_rfl) (by kernel_rfl) (.inr opk7h14) (.inr opk7h15)
theorem opk7h114 : DT.leaf.check (okKD Try.prog opkKn opkDer [3, 4, 5, 6] opkET 100000 60 7 (opkArgs false)) opk7k12n = true := check_leaf (by kernel_rfl)
def opk7t12 : DT := .less 1003 (17) opk7t13 .leaf
theorem opk7h12 : opk7t12.check (okKD Try.prog opkKn opkDer [3, 4, 5, 6] opkET 100000 60 7 (opkArgs false)) opk7k10n = true := check_less (Ky := opk7k12y) (Kn := opk7k12n) (i := ⟨1, 2000, []⟩) (by kernel_rfl) (by kernel_rfl) (by kernel_rfl) (.inr opk7h13) (.inr opk7h114)
def opk7t10 : DT := .less 1003 (1) .leaf opk7t12
theorem opk7h10 : opk7t10.check (okKD Try.prog opkKn opkDer [3, 4, 5, 6] opkET 100000 60 7 (opkArgs false)) opk7k9y = true := check_less (Ky := opk7k10y) (Kn := opk7k10n) (i := ⟨0, 2000, []⟩) (by kernel_rfl) (by kernel_rfl) (by kernel_rfl) (.inr opk7h11) (.inr opk7h12)
theorem opk7h115 : DT.leaf.check (okKD Try.prog opkKn opkDer [3, 4, 5, 6] opkET 100000 60 7 (opkArgs false)) opk7k9n = true := check_leaf (by kernel_rfl)
def opk7t9 : DT := .less 2 (1099511627777) opk7t10 .leaf
theorem opk7h9 : opk7t9.check (okKD Try.prog opkKn opkDer [3, 4, 5, 6] opkET 100000 60 7 (opkArgs false)) opk7k7n = true := check_less (Ky := opk7k9y) (Kn := opk7k9n) (i := ⟨1, 9223372036854775807, []⟩) (by kernel_rfl) (by kernel_rfl) (by kernel_rfl) (.inr opk7h10) (.inr opk7h115)
def opk7t7 : DT := .less 2 (1) .leaf opk7t9
theorem opk7h7 : opk7t7.check (okKD Try.prog opkKn opkDer [3, 4, 5, 6] opkET 100000 60 7 (opkArgs false)) opk7k6y = true := check_less (Ky := opk7k7y) (Kn := opk7k7n) (i := ⟨-9223372036854775808, 9223372036854775807, []⟩) (by kernel_rfl) (by kernel_rfl) (by kernel_rfl) (.inr opk7h8) (.inr opk7h9)
theorem opk7h116 : DT.leaf.check (okKD Try.prog opkKn opkDer [3, 4, 5, 6] opkET 100000 60 7 (opkArgs false)) opk7k6n = true := check_leaf (by kernel_rfl)
def opk7t6 : DT := .less 1 (1048577) opk7t7 .leaf
theorem opk7h6 : opk7t6.check (okKD Try.prog opkKn opkDer [3, 4, 5, 6] opkET 100000 60 7 (opkArgs false)) opk7k4n = true := check_less (Ky := opk7k6y) (Kn := opk7k6n) (i := ⟨1, 9223372036854775807, []⟩) (by kernel_rfl) (by kernel_rfl) (by kernel_rfl) (.inr opk7h7) (.inr opk7h116)
def opk7t4 : DT := .less 1 (1) .leaf opk7t6
theorem opk7h4 : opk7t4.check (okKD Try.prog opkKn opkDer [3, 4, 5, 6] opkET 100000 60 7 (opkArgs false)) opk7k3y = true := check_less (Ky := opk7k4y) (Kn := opk7k4n) (i := ⟨-9223372036854775808, 9223372036854775807, []⟩) (by kernel_rfl) (by kernel_rfl) (by kernel_rfl) (.inr opk7h5) (.inr opk7h6)
theorem opk7h117 : DT.leaf.check (okKD Try.prog opkKn opkDer [3, 4, 5, 6] opkET 100000 60 7 (opkArgs false)) opk7k3n = true := check_leaf (by kernel_rfl)
def opk7t3 : DT := .less 1006 (2001) opk7t4 .leaf
theorem opk7h3 : opk7t3.check (okKD Try.prog opkKn opkDer [3, 4, 5, 6] opkET 100000 60 7 (opkArgs false)) opk7k2y = true := check_less (Ky := opk7k3y) (Kn := opk7k3n) (i := ⟨0, 9223372036854775807, []⟩) (by kernel_rfl) (by kernel_rfl) (by kernel_rfl) (.inr opk7h4) (.inr opk7h117)
theorem opk7h118 : DT.leaf.check (okKD Try.prog opkKn opkDer [3, 4, 5, 6] opkET 100000 60 7 (opkArgs false)) opk7k2n = true := check_leaf (by kernel_rfl)
def opk7t2 : DT := .less 1005 (2001) opk7t3 .leaf
theorem opk7h2 : opk7t2.check (okKD Try.prog opkKn opkDer [3, 4, 5, 6] opkET 100000 60 7 (opkArgs false)) opk7k1y = true := check_less (Ky := opk7k2y) (Kn := opk7k2n) (i := ⟨0, 9223372036854775807, []⟩) (by kernel_rfl) (by kernel_rfl) (by kernel_rfl) (.inr opk7h3) (.inr opk7h118)
theorem opk7h119 : DT.leaf.check (okKD Try.prog opkKn opkDer [3, 4, 5, 6] opkET 100000 60 7 (opkArgs false)) opk7k1n = true := check_leaf (by kernel_rfl)
def opk7t1 : DT := .less 1004 (2001) opk7t2 .leaf
theorem opk7h1 : opk7t1.check (okKD Try.prog opkKn opkDer [3, 4, 5, 6] opkET 100000 60 7 (opkArgs false)) opk7k0y = true := check_less (Ky := opk7k1y) (Kn := opk7k1n) (i := ⟨0, 9223372036854775807, []⟩) (by kernel_rfl) (by kernel_rfl) (by kernel_rfl) (.inr opk7h2) (.inr opk7h119)
theorem opk7h120 : DT.leaf.check (okKD Try.prog opkKn opkDer [3, 4, 5, 6] opkET 100000 60 7 (opkArgs false)) opk7k0n = true := check_leaf (by kernel_rfl)
def opk7t0 : DT := .less 1003 (2001) opk7t1 .leaf
theorem opk7h0 : opk7t0.check (okKD Try.prog opkKn opkDer [3, 4, 5, 6] opkET 100000 60 7 (opkArgs false)) opkKB7 = true := check_less (Ky := opk7k0y) (Kn := opk7k0n) (i := ⟨0, 9223372036854775807, []⟩) (by kernel_rfl) (by kernel_rfl) (by kernel_rfl) (.inr opk7h1) (.inr opk7h120)
theorem opkCheck7 : opk7t0.check (okKD Try.prog opkKn opkDer [3, 4, 5, 6] opkET 100000 60 7 (opkArgs false)) (opkKB ⟨1099511627777, 9223372036854775807, []⟩ opkBig) = true := opk7h0
end Go.Proofs.Ytliljfncbljfpaa
