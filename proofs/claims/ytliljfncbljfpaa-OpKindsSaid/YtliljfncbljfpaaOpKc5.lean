/- OpKinds: tree 5. -/
import Derived.Test.YtliljfncbljfpaaOpKa
import Derived.ProofKit
namespace Go.Proofs.Ytliljfncbljfpaa
open Go.RowKit
set_option linter.unusedVariables false
set_option linter.unusedSimpArgs false
set_option maxRecDepth 100000

def opkKB5 : KB := opkKB ⟨1, 1099511627776, []⟩ ⟨1099511627777, 2199023255552, []⟩
def opk5k0y : KB := opkKB5.put 1003 ⟨0, 2000, []⟩
def opk5k0n : KB := opkKB5.put 1003 ⟨2001, 9223372036854775807, []⟩
def opk5k1y : KB := opk5k0y.put 1004 ⟨0, 2000, []⟩
def opk5k1n : KB := opk5k0y.put 1004 ⟨2001, 9223372036854775807, []⟩
def opk5k2y : KB := opk5k1y.put 1005 ⟨0, 2000, []⟩
def opk5k2n : KB := opk5k1y.put 1005 ⟨2001, 9223372036854775807, []⟩
def opk5k3y : KB := opk5k2y.put 1006 ⟨0, 2000, []⟩
def opk5k3n : KB := opk5k2y.put 1006 ⟨2001, 9223372036854775807, []⟩
def opk5k4y : KB := opk5k3y.put 1 ⟨-9223372036854775808, 0, []⟩
def opk5k4n : KB := opk5k3y.put 1 ⟨1, 9223372036854775807, []⟩
theorem opk5h5 : DT.leaf.check (okKD Try.prog opkKn opkDer [3, 4, 5, 6] opkET 100000 60 7 (opkArgs false)) opk5k4y = true := check_leaf (by kernel_rfl)
def opk5k6y : KB := opk5k4n.put 1 ⟨1, 1048576, []⟩
def opk5k6n : KB := opk5k4n.put 1 ⟨1048577, 9223372036854775807, []⟩
def opk5k7y : KB := opk5k6y.put 2 ⟨-9223372036854775808, 0, []⟩
def opk5k7n : KB := opk5k6y.put 2 ⟨1, 9223372036854775807, []⟩
theorem opk5h8 : DT.leaf.check (okKD Try.prog opkKn opkDer [3, 4, 5, 6] opkET 100000 60 7 (opkArgs false)) opk5k7y = true := check_leaf (by kernel_rfl)
def opk5k9y : KB := opk5k7n.put 2 ⟨1, 1099511627776, []⟩
def opk5k9n : KB := opk5k7n.put 2 ⟨1099511627777, 9223372036854775807, []⟩
def opk5k10y : KB := opk5k9y.put 1003 ⟨0, 0, []⟩
def opk5k10n : KB := opk5k9y.put 1003 ⟨1, 2000, []⟩
theorem opk5h11 : DT.leaf.check (okKD Try.prog opkKn opkDer [3, 4, 5, 6] opkET 100000 60 7 (opkArgs false)) opk5k10y = true := check_leaf (by kernel_rfl)
def opk5k12y : KB := opk5k10n.put 1003 ⟨1, 16, []⟩
def opk5k12n : KB := opk5k10n.put 1003 ⟨17, 2000, []⟩
def opk5k13y : KB := opk5k12y.put 1004 ⟨0, 0, []⟩
def opk5k13n : KB := opk5k12y.put 1004 ⟨1, 2000, []⟩
theorem opk5h14 : DT.leaf.check (okKD Try.prog opkKn opkDer [3, 4, 5, 6] opkET 100000 60 7 (opkArgs false)) opk5k13y = true := check_leaf (by kernel_rfl)
def opk5k15y : KB := opk5k13n.put 1004 ⟨1, 16, []⟩
def opk5k15n : KB := opk5k13n.put 1004 ⟨17, 2000, []⟩
def opk5k16y : KB := opk5k15y.put 0 ⟨1, 1, []⟩
def opk5k16n : KB := opk5k15y.put 0 ⟨-9223372036854775808, 9223372036854775807, [1]⟩
def opk5k17y : KB := opk5k16y.put 7 ⟨-9223372036854775808, -1, []⟩
def opk5k17n : KB := opk5k16y.put 7 ⟨0, 9223372036854775807, []⟩
theorem opk5h18 : DT.leaf.check (okKD Try.prog opkKn opkDer [3, 4, 5, 6] opkET 100000 60 7 (opkArgs false)) opk5k17y = true := check_leaf (by kernel_rfl)
def opk5k19y : KB := opk5k17n.put 7 ⟨0, 3, []⟩
def opk5k19n : KB := opk5k17n.put 7 ⟨4, 9223372036854775807, []⟩
def opk5k20y : KB := opk5k19y.put 8 ⟨-9223372036854775808, 0, []⟩
def opk5k20n : KB := opk5k19y.put 8 ⟨1, 9223372036854775807, []⟩
theorem opk5h21 : DT.leaf.check (okKD Try.prog opkKn opkDer [3, 4, 5, 6] opkET 100000 60 7 (opkArgs false)) opk5k20y = true := check_leaf (by kernel_rfl)
def opk5k22y : KB := opk5k20n.put 8 ⟨1, 1048576, []⟩
def opk5k22n : KB := opk5k20n.put 8 ⟨1048577, 9223372036854775807, []⟩
def opk5k23y : KB := opk5k22y.put 1005 ⟨0, 0, []⟩
def opk5k23n : KB := opk5k22y.put 1005 ⟨1, 2000, []⟩
def opk5k24y : KB := opk5k23y.put 1006 ⟨0, 0, []⟩
def opk5k24n : KB := opk5k23y.put 1006 ⟨1, 2000, []⟩
def opk5k25y : KB := opk5k24y.put 9 ⟨0, 0, []⟩
def opk5k25n : KB := opk5k24y.put 9 ⟨-9223372036854775808, 9223372036854775807, [0]⟩
theorem opk5h26 : DT.leaf.check (okKD Try.prog opkKn opkDer [3, 4, 5, 6] opkET 100000 60 7 (opkArgs false)) opk5k25y = true := check_leaf (by kernel_rfl)
theorem opk5h27 : DT.leaf.check (okKD Try.prog opkKn opkDer [3, 4, 5, 6] opkET 100000 60 7 (opkArgs false)) opk5k25n = true := check_leaf (by kernel_rfl)
def opk5t25 : DT := .same 9 (0) .leaf .leaf
theorem opk5h25 : opk5t25.check (okKD Try.prog opkKn opkDer [3, 4, 5, 6] opkET 100000 60 7 (opkArgs false)) opk5k24y = true := check_same (Ky := opk5k25y) (Kn := opk5k25n) (i := ⟨-9223372036854775808, 9223372036854775807, []⟩) (by kernel_rfl) (by kernel_rfl) (by kernel_rfl) (.inr opk5h26) (.inr opk5h27)
theorem opk5h28 : DT.leaf.check (okKD Try.prog opkKn opkDer [3, 4, 5, 6] opkET 100000 60 7 (opkArgs false)) opk5k24n = true := check_leaf (by kernel_rfl)
def opk5t24 : DT := .same 1006 (0) opk5t25 .leaf
theorem opk5h24 : opk5t24.check (okKD Try.prog opkKn opkDer [3, 4, 5, 6] opkET 100000 60 7 (opkArgs false)) opk5k23y = true := check_same (Ky := opk5k24y) (Kn := opk5k24n) (i := ⟨0, 2000, []⟩) (by kernel_rfl) (by kernel_rfl) (by kernel_rfl) (.inr opk5h25) (.inr opk5h28)
theorem opk5h29 : DT.leaf.check (okKD Try.prog opkKn opkDer [3, 4, 5, 6] opkET 100000 60 7 (opkArgs false)) opk5k23n = true := check_leaf (by kernel_rfl)
def opk5t23 : DT := .same 1005 (0) opk5t24 .leaf
theorem opk5h23 : opk5t23.check (okKD Try.prog opkKn opkDer [3, 4, 5, 6] opkET 100000 60 7 (opkArgs false)) opk5k22y = true := check_same (Ky := opk5k23y) (Kn := opk5k23n) (i := ⟨0, 2000, []⟩) (by kernel_rfl) (by kernel_rfl) (by kernel_rfl) (.inr opk5h24) (.inr opk5h29)
theorem opk5h30 : DT.leaf.check (okKD Try.prog opkKn opkDer [3, 4, 5, 6] opkET 100000 60 7 (opkArgs false)) opk5k22n = true := check_leaf (by kernel_rfl)
def opk5t22 : DT := .less 8 (1048577) opk5t23 .leaf
theorem opk5h22 : opk5t22.check (okKD Try.prog opkKn opkDer [3, 4, 5, 6] opkET 100000 60 7 (opkArgs false)) opk5k20n = true := check_less (Ky := opk5k22y) (Kn := opk5k22n) (i := ⟨1, 9223372036854775807, []⟩) (by kernel_rfl) (by kernel_rfl) (by kernel_rfl) (.inr opk5h23) (.inr opk5h30)
def opk5t20 : DT := .less 8 (1) .leaf opk5t22
theorem opk5h20 : opk5t20.check (okKD Try.prog opkKn opkDer [3, 4, 5, 6] opkET 100000 60 7 (opkArgs false)) opk5k19y = true := check_less (Ky := opk5k20y) (Kn := opk5k20n) (i := ⟨-9223372036854775808, 9223372036854775807, []⟩) (by kernel_rfl) (by kernel_rfl) (by kernel_rfl) (.inr opk5h21) (.inr opk5h22)
theorem opk5h31 : DT.leaf.check (okKD Try.prog opkKn opkDer [3, 4, 5, 6] opkET 100000 60 7 (opkArgs false)) opk5k19n = true := check_leaf (by kernel_rfl)
def opk5t19 : DT := .less 7 (4) opk5t20 .leaf
theorem opk5h19 : opk5t19.check (okKD Try.prog opkKn opkDer [3, 4, 5, 6] opkET 100000 60 7 (opkArgs false)) opk5k17n = true := check_less (Ky := opk5k19y) (Kn := opk5k19n) (i := ⟨0, 9223372036854775807, []⟩) (by kernel_rfl) (by kernel_rfl) (by kernel_rfl) (.inr opk5h20) (.inr opk5h31)
def opk5t17 : DT := .less 7 (0) .leaf opk5t19
theorem opk5h17 : opk5t17.check (okKD Try.prog opkKn opkDer [3, 4, 5, 6] opkET 100000 60 7 (opkArgs false)) opk5k16y = true := check_less (Ky := opk5k17y) (Kn := opk5k17n) (i := ⟨-9223372036854775808, 9223372036854775807, []⟩) (by kernel_rfl) (by kernel_rfl) (by kernel_rfl) (.inr opk5h18) (.inr opk5h19)
def opk5k32y : KB := opk5k16n.put 0 ⟨6, 6, [1]⟩
def opk5k32n : KB := opk5k16n.put 0 ⟨-9223372036854775808, 9223372036854775807, [6, 1]⟩
def opk5k33y : KB := opk5k32y.put 7 ⟨-9223372036854775808, -1, []⟩
def opk5k33n : KB := opk5k32y.put 7 ⟨0, 9223372036854775807, []⟩
theorem opk5h34 : DT.leaf.check (okKD Try.prog opkKn opkDer [3, 4, 5, 6] opkET 100000 60 7 (opkArgs false)) opk5k33y = true := check_leaf (by kernel_rfl)
def opk5k35y : KB := opk5k33n.put 7 ⟨0, 3, []⟩
def opk5k35n : KB := opk5k33n.put 7 ⟨4, 9223372036854775807, []⟩
def opk5k36y : KB := opk5k35y.put 8 ⟨-9223372036854775808, 0, []⟩
def opk5k36n : KB := opk5k35y.put 8 ⟨1, 9223372036854775807, []⟩
theorem opk5h37 : DT.leaf.check (okKD Try.prog opkKn opkDer [3, 4, 5, 6] opkET 100000 60 7 (opkArgs false)) opk5k36y = true := check_leaf (by kernel_rfl)
def opk5k38y : KB := opk5k36n.put 8 ⟨1, 1048576, []⟩
def opk5k38n : KB := opk5k36n.put 8 ⟨1048577, 9223372036854775807, []⟩
def opk5k39y : KB := opk5k38y.put 1005 ⟨0, 0, []⟩
def opk5k39n : KB := opk5k38y.put 1005 ⟨1, 2000, []⟩
def opk5k40y : KB := opk5k39y.put 1006 ⟨0, 0, []⟩
def opk5k40n : KB := opk5k39y.put 1006 ⟨1, 2000, []⟩
def opk5k41y : KB := opk5k40y.put 9 ⟨0, 0, []⟩
def opk5k41n : KB := opk5k40y.put 9 ⟨-9223372036854775808, 9223372036854775807, [0]⟩
theorem opk5h42 : DT.leaf.check (okKD Try.prog opkKn opkDer [3, 4, 5, 6] opkET 100000 60 7 (opkArgs false)) opk5k41y = true := check_leaf (by kernel_rfl)
theorem opk5h43 : DT.leaf.check (okKD Try.prog opkKn opkDer [3, 4, 5, 6] opkET 100000 60 7 (opkArgs false)) opk5k41n = true := check_leaf (by kernel_rfl)
def opk5t41 : DT := .same 9 (0) .leaf .leaf
theorem opk5h41 : opk5t41.check (okKD Try.prog opkKn opkDer [3, 4, 5, 6] opkET 100000 60 7 (opkArgs false)) opk5k40y = true := check_same (Ky := opk5k41y) (Kn := opk5k41n) (i := ⟨-9223372036854775808, 9223372036854775807, []⟩) (by kernel_rfl) (by kernel_rfl) (by kernel_rfl) (.inr opk5h42) (.inr opk5h43)
theorem opk5h44 : DT.leaf.check (okKD Try.prog opkKn opkDer [3, 4, 5, 6] opkET 100000 60 7 (opkArgs false)) opk5k40n = true := check_leaf (by kernel_rfl)
def opk5t40 : DT := .same 1006 (0) opk5t41 .leaf
theorem opk5h40 : opk5t40.check (okKD Try.prog opkKn opkDer [3, 4, 5, 6] opkET 100000 60 7 (opkArgs false)) opk5k39y = true := check_same (Ky := opk5k40y) (Kn := opk5k40n) (i := ⟨0, 2000, []⟩) (by kernel_rfl) (by kernel_rfl) (by kernel_rfl) (.inr opk5h41) (.inr opk5h44)
theorem opk5h45 : DT.leaf.check (okKD Try.prog opkKn opkDer [3, 4, 5, 6] opkET 100000 60 7 (opkArgs false)) opk5k39n = true := check_leaf (by kernel_rfl)
def opk5t39 : DT := .same 1005 (0) opk5t40 .leaf
theorem opk5h39 : opk5t39.check (okKD Try.prog opkKn opkDer [3, 4, 5, 6] opkET 100000 60 7 (opkArgs false)) opk5k38y = true := check_same (Ky := opk5k39y) (Kn := opk5k39n) (i := ⟨0, 2000, []⟩) (by kernel_rfl) (by kernel_rfl) (by kernel_rfl) (.inr opk5h40) (.inr opk5h45)
theorem opk5h46 : DT.leaf.check (okKD Try.prog opkKn opkDer [3, 4, 5, 6] opkET 100000 60 7 (opkArgs false)) opk5k38n = true := check_leaf (by kernel_rfl)
def opk5t38 : DT := .less 8 (1048577) opk5t39 .leaf
theorem opk5h38 : opk5t38.check (okKD Try.prog opkKn opkDer [3, 4, 5, 6] opkET 100000 60 7 (opkArgs false)) opk5k36n = true := check_less (Ky := opk5k38y) (Kn := opk5k38n) (i := ⟨1, 9223372036854775807, []⟩) (by kernel_rfl) (by kernel_rfl) (by kernel_rfl) (.inr opk5h39) (.inr opk5h46)
def opk5t36 : DT := .less 8 (1) .leaf opk5t38
theorem opk5h36 : opk5t36.check (okKD Try.prog opkKn opkDer [3, 4, 5, 6] opkET 100000 60 7 (opkArgs false)) opk5k35y = true := check_less (Ky := opk5k36y) (Kn := opk5k36n) (i := ⟨-9223372036854775808, 9223372036854775807, []⟩) (by kernel_rfl) (by kernel_rfl) (by kernel_rfl) (.inr opk5h37) (.inr opk5h38)
theorem opk5h47 : DT.leaf.check (okKD Try.prog opkKn opkDer [3, 4, 5, 6] opkET 100000 60 7 (opkArgs false)) opk5k35n = true := check_leaf (by kernel_rfl)
def opk5t35 : DT := .less 7 (4) opk5t36 .leaf
theorem opk5h35 : opk5t35.check (okKD Try.prog opkKn opkDer [3, 4, 5, 6] opkET 100000 60 7 (opkArgs false)) opk5k33n = true := check_less (Ky := opk5k35y) (Kn := opk5k35n) (i := ⟨0, 9223372036854775807, []⟩) (by kernel_rfl) (by kernel_rfl) (by kernel_rfl) (.inr opk5h36) (.inr opk5h47)
def opk5t33 : DT := .less 7 (0) .leaf opk5t35
theorem opk5h33 : opk5t33.check (okKD Try.prog opkKn opkDer [3, 4, 5, 6] opkET 100000 60 7 (opkArgs false)) opk5k32y = true := check_less (Ky := opk5k33y) (Kn := opk5k33n) (i := ⟨-9223372036854775808, 9223372036854775807, []⟩) (by kernel_rfl) (by kernel_rfl) (by kernel_rfl) (.inr opk5h34) (.inr opk5h35)
def opk5k48y : KB := opk5k32n.put 0 ⟨2, 2, [6, 1]⟩
def opk5k48n : KB := opk5k32n.put 0 ⟨-9223372036854775808, 9223372036854775807, [2, 6, 1]⟩
def opk5k49y : KB := opk5k48y.put 7 ⟨-9223372036854775808, -1, []⟩
def opk5k49n : KB := opk5k48y.put 7 ⟨0, 9223372036854775807, []⟩
theorem opk5h50 : DT.leaf.check (okKD Try.prog opkKn opkDer [3, 4, 5, 6] opkET 100000 60 7 (opkArgs false)) opk5k49y = true := check_leaf (by kernel_rfl)
def opk5k51y : KB := opk5k49n.put 7 ⟨0, 3, []⟩
def opk5k51n : KB := opk5k49n.put 7 ⟨4, 9223372036854775807, []⟩
def opk5k52y : KB := opk5k51y.put 8 ⟨-9223372036854775808, 0, []⟩
def opk5k52n : KB := opk5k51y.put 8 ⟨1, 9223372036854775807, []⟩
theorem opk5h53 : DT.leaf.check (okKD Try.prog opkKn opkDer [3, 4, 5, 6] opkET 100000 60 7 (opkArgs false)) opk5k52y = true := check_leaf (by kernel_rfl)
def opk5k54y : KB := opk5k52n.put 8 ⟨1, 1048576, []⟩
def opk5k54n : KB := opk5k52n.put 8 ⟨1048577, 9223372036854775807, []⟩
def opk5k55y : KB := opk5k54y.put 1005 ⟨0, 0, []⟩
def opk5k55n : KB := opk5k54y.put 1005 ⟨1, 2000, []⟩
theorem opk5h56 : DT.leaf.check (okKD Try.prog opkKn opkDer [3, 4, 5, 6] opkET 100000 60 7 (opkArgs false)) opk5k55y = true := check_leaf (by kernel_rfl)
def opk5k57y : KB := opk5k55n.put 1005 ⟨1, 16, []⟩
def opk5k57n : KB := opk5k55n.put 1005 ⟨17, 2000, []⟩
def opk5k58y : KB := opk5k57y.put 1006 ⟨0, 0, []⟩
def opk5k58n : KB := opk5k57y.put 1006 ⟨1, 2000, []⟩
theorem opk5h59 : DT.leaf.check (okKD Try.prog opkKn opkDer [3, 4, 5, 6] opkET 100000 60 7 (opkArgs false)) opk5k58y = true := check_leaf (by kernel_rfl)
def opk5k60y : KB := opk5k58n.put 1006 ⟨1, 16, []⟩
def opk5k60n : KB := opk5k58n.put 1006 ⟨17, 2000, []⟩
def opk5k61y : KB := opk5k60y.put 9 ⟨0, 0, []⟩
def opk5k61n : KB := opk5k60y.put 9 ⟨-9223372036854775808, 9223372036854775807, [0]⟩
theorem opk5h62 : DT.leaf.check (okKD Try.prog opkKn opkDer [3, 4, 5, 6] opkET 100000 60 7 (opkArgs false)) opk5k61y = true := check_leaf (by kernel_rfl)
theorem opk5h63 : DT.leaf.check (okKD Try.prog opkKn opkDer [3, 4, 5, 6] opkET 100000 60 7 (opkArgs false)) opk5k61n = true := check_leaf (by kernel_rfl)
def opk5t61 : DT := .same 9 (0) .leaf .leaf
theorem opk5h61 : opk5t61.check (okKD Try.prog opkKn opkDer [3, 4, 5, 6] opkET 100000 60 7 (opkArgs false)) opk5k60y = true := check_same (Ky := opk5k61y) (Kn := opk5k61n) (i := ⟨-9223372036854775808, 9223372036854775807, []⟩) (by kernel_rfl) (by kernel_rfl) (by kernel_rfl) (.inr opk5h62) (.inr opk5h63)
theorem opk5h64 : DT.leaf.check (okKD Try.prog opkKn opkDer [3, 4, 5, 6] opkET 100000 60 7 (opkArgs false)) opk5k60n = true := check_leaf (by kernel_rfl)
def opk5t60 : DT := .less 1006 (17) opk5t61 .leaf
theorem opk5h60 : opk5t60.check (okKD Try.prog opkKn opkDer [3, 4, 5, 6] opkET 100000 60 7 (opkArgs false)) opk5k58n = true := check_less (Ky := opk5k60y) (Kn := opk5k60n) (i := ⟨1, 2000, []⟩) (by kernel_rfl) (by kernel_rfl) (by kernel_rfl) (.inr opk5h61) (.inr opk5h64)
def opk5t58 : DT := .less 1006 (1) .leaf opk5t60
theorem opk5h58 : opk5t58.check (okKD Try.prog opkKn opkDer [3, 4, 5, 6] opkET 100000 60 7 (opkArgs false)) opk5k57y = true := check_less (Ky := opk5k58y) (Kn := opk5k58n) (i := ⟨0, 2000, []⟩) (by kernel_rfl) (by kernel_rfl) (by kernel_rfl) (.inr opk5h59) (.inr opk5h60)
theorem opk5h65 : DT.leaf.check (okKD Try.prog opkKn opkDer [3, 4, 5, 6] opkET 100000 60 7 (opkArgs false)) opk5k57n = true := check_leaf (by kernel_rfl)
def opk5t57 : DT := .less 1005 (17) opk5t58 .leaf
theorem opk5h57 : opk5t57.check (okKD Try.prog opkKn opkDer [3, 4, 5, 6] opkET 100000 60 7 (opkArgs false)) opk5k55n = true := check_less (Ky := opk5k57y) (Kn := opk5k57n) (i := ⟨1, 2000, []⟩) (by kernel_rfl) (by kernel_rfl) (by kernel_rfl) (.inr opk5h58) (.inr opk5h65)
def opk5t55 : DT := .less 1005 (1) .leaf opk5t57
theorem opk5h55 : opk5t55.check (okKD Try.prog opkKn opkDer [3, 4, 5, 6] opkET 100000 60 7 (opkArgs false)) opk5k54y = true := check_less (Ky := opk5k55y) (Kn := opk5k55n) (i := ⟨0, 2000, []⟩) (by kernel_rfl) (by kernel_rfl) (by kernel_rfl) (.inr opk5h56) (.inr opk5h57)
theorem opk5h66 : DT.leaf.check (okKD Try.prog opkKn opkDer [3, 4, 5, 6] opkET 100000 60 7 (opkArgs false)) opk5k54n = true := check_leaf (by kernel_rfl)
def opk5t54 : DT := .less 8 (1048577) opk5t55 .leaf
theorem opk5h54 : opk5t54.check (okKD Try.prog opkKn opkDer [3, 4, 5, 6] opkET 100000 60 7 (opkArgs false)) opk5k52n = true := check_less (Ky := opk5k54y) (Kn := opk5k54n) (i := ⟨1, 9223372036854775807, []⟩) (by kernel_rfl) (by kernel_rfl) (by kernel_rfl) (.inr opk5h55) (.inr opk5h66)
def opk5t52 : DT := .less 8 (1) .leaf opk5t54
theorem opk5h52 : opk5t52.check (okKD Try.prog opkKn opkDer [3, 4, 5, 6] opkET 100000 60 7 (opkArgs false)) opk5k51y = true := check_less (Ky := opk5k52y) (Kn := opk5k52n) (i := ⟨-9223372036854775808, 9223372036854775807, []⟩) (by kernel_rfl) (by kernel_rfl) (by kernel_rfl) (.inr opk5h53) (.inr opk5h54)
theorem opk5h67 : DT.leaf.check (okKD Try.prog opkKn opkDer [3, 4, 5, 6] opkET 100000 60 7 (opkArgs false)) opk5k51n = true := check_leaf (by kernel_rfl)
def opk5t51 : DT := .less 7 (4) opk5t52 .leaf
theorem opk5h51 : opk5t51.check (okKD Try.prog opkKn opkDer [3, 4, 5, 6] opkET 100000 60 7 (opkArgs false)) opk5k49n = true := check_less (Ky := opk5k51y) (Kn := opk5k51n) (i := ⟨0, 9223372036854775807, []⟩) (by kernel_rfl) (by kernel_rfl) (by kernel_rfl) (.inr opk5h52) (.inr opk5h67)
def opk5t49 : DT := .less 7 (0) .leaf opk5t51
theorem opk5h49 : opk5t49.check (okKD Try.prog opkKn opkDer [3, 4, 5, 6] opkET 100000 60 7 (opkArgs false)) opk5k48y = true := check_less (Ky := opk5k49y) (Kn := opk5k49n) (i := ⟨-9223372036854775808, 9223372036854775807, []⟩) (by kernel_rfl) (by kernel_rfl) (by kernel_rfl) (.inr opk5h50) (.inr opk5h51)
def opk5k68y : KB := opk5k48n.put 0 ⟨3, 3, [2, 6, 1]⟩
def opk5k68n : KB := opk5k48n.put 0 ⟨-9223372036854775808, 9223372036854775807, [3, 2, 6, 1]⟩
def opk5k69y : KB := opk5k68y.put 7 ⟨-9223372036854775808, 0, []⟩
def opk5k69n : KB := opk5k68y.put 7 ⟨1, 9223372036854775807, []⟩
theorem opk5h70 : DT.leaf.check (okKD Try.prog opkKn opkDer [3, 4, 5, 6] opkET 100000 60 7 (opkArgs false)) opk5k69y = true := check_leaf (by kernel_rfl)
def opk5k71y : KB := opk5k69n.put 7 ⟨1, 3, []⟩
def opk5k71n : KB := opk5k69n.put 7 ⟨4, 9223372036854775807, []⟩
def opk5k72y : KB := opk5k71y.put 8 ⟨-9223372036854775808, 0, []⟩
def opk5k72n : KB := opk5k71y.put 8 ⟨1, 9223372036854775807, []⟩
theorem opk5h73 : DT.leaf.check (okKD Try.prog opkKn opkDer [3, 4, 5, 6] opkET 100000 60 7 (opkArgs false)) opk5k72y = true := check_leaf (by kernel_rfl)
def opk5k74y : KB := opk5k72n.put 8 ⟨1, 1048576, []⟩
def opk5k74n : KB := opk5k72n.put 8 ⟨1048577, 9223372036854775807, []⟩
def opk5k75y : KB := opk5k74y.put 9 ⟨-9223372036854775808, 0, []⟩
def opk5k75n : KB := opk5k74y.put 9 ⟨1, 9223372036854775807, []⟩
theorem opk5h76 : DT.leaf.check (okKD Try.prog opkKn opkDer [3, 4, 5, 6] opkET 100000 60 7 (opkArgs false)) opk5k75y = true := check_leaf (by kernel_rfl)
def opk5k77y : KB := opk5k75n.put 9 ⟨1, 1024, []⟩
def opk5k77n : KB := opk5k75n.put 9 ⟨1025, 9223372036854775807, []⟩
def opk5k78y : KB := opk5k77y.put 1005 ⟨0, 0, []⟩
def opk5k78n : KB := opk5k77y.put 1005 ⟨1, 2000, []⟩
def opk5k79y : KB := opk5k78y.put 1006 ⟨0, 0, []⟩
def opk5k79n : KB := opk5k78y.put 1006 ⟨1, 2000, []⟩
theorem opk5h80 : DT.leaf.check (okKD Try.prog opkKn opkDer [3, 4, 5, 6] opkET 100000 60 7 (opkArgs false)) opk5k79y = true := check_leaf (by kernel_rfl)
theorem opk5h81 : DT.leaf.check (okKD Try.prog opkKn opkDer [3, 4, 5, 6] opkET 100000 60 7 (opkArgs false)) opk5k79n = true := check_leaf (by kernel_rfl)
def opk5t79 : DT := .same 1006 (0) .leaf .leaf
theorem opk5h79 : opk5t79.check (okKD Try.prog opkKn opkDer [3, 4, 5, 6] opkET 100000 60 7 (opkArgs false)) opk5k78y = true := check_same (Ky := opk5k79y) (Kn := opk5k79n) (i := ⟨0, 2000, []⟩) (by kernel_rfl) (by kernel_rfl) (by kernel_rfl) (.inr opk5h80) (.inr opk5h81)
theorem opk5h82 : DT.leaf.check (okKD Try.prog opkKn opkDer [3, 4, 5, 6] opkET 100000 60 7 (opkArgs false)) opk5k78n = true := check_leaf (by kernel_rfl)
def opk5t78 : DT := .same 1005 (0) opk5t79 .leaf
theorem opk5h78 : opk5t78.check (okKD Try.prog opkKn opkDer [3, 4, 5, 6] opkET 100000 60 7 (opkArgs false)) opk5k77y = true := check_same (Ky := opk5k78y) (Kn := opk5k78n) (i := ⟨0, 2000, []⟩) (by kernel_rfl) (by kernel_rfl) (by kernel_rfl) (.inr opk5h79) (.inr opk5h82)
theorem opk5h83 : DT.leaf.check (okKD Try.prog opkKn opkDer [3, 4, 5, 6] opkET 100000 60 7 (opkArgs false)) opk5k77n = true := check_leaf (by kernel_rfl)
def opk5t77 : DT := .less 9 (1025) opk5t78 .leaf
theorem opk5h77 : opk5t77.check (okKD Try.prog opkKn opkDer [3, 4, 5, 6] opkET 100000 60 7 (opkArgs false)) opk5k75n = true := check_less (Ky := opk5k77y) (Kn := opk5k77n) (i := ⟨1, 9223372036854775807, []⟩) (by kernel_rfl) (by kernel_rfl) (by kernel_rfl) (.inr opk5h78) (.inr opk5h83)
def opk5t75 : DT := .less 9 (1) .leaf opk5t77
theorem opk5h75 : opk5t75.check (okKD Try.prog opkKn opkDer [3, 4, 5, 6] opkET 100000 60 7 (opkArgs false)) opk5k74y = true := check_less (Ky := opk5k75y) (Kn := opk5k75n) (i := ⟨-9223372036854775808, 9223372036854775807, []⟩) (by kernel_rfl) (by kernel_rfl) (by kernel_rfl) (.inr opk5h76) (.inr opk5h77)
theorem opk5h84 : DT.leaf.check (okKD Try.prog opkKn opkDer [3, 4, 5, 6] opkET 100000 60 7 (opkArgs false)) opk5k74n = true := check_leaf (by kernel_rfl)
def opk5t74 : DT := .less 8 (1048577) opk5t75 .leaf
theorem opk5h74 : opk5t74.check (okKD Try.prog opkKn opkDer [3, 4, 5, 6] opkET 100000 60 7 (opkArgs false)) opk5k72n = true := check_less (Ky := opk5k74y) (Kn := opk5k74n) (i := ⟨1, 9223372036854775807, []⟩) (by kernel_rfl) (by kernel_rfl) (by kernel_rfl) (.inr opk5h75) (.inr opk5h84)
def opk5t72 : DT := .less 8 (1) .leaf opk5t74
theorem opk5h72 : opk5t72.check (okKD Try.prog opkKn opkDer [3, 4, 5, 6] opkET 100000 60 7 (opkArgs false)) opk5k71y = true := check_less (Ky := opk5k72y) (Kn := opk5k72n) (i := ⟨-9223372036854775808, 9223372036854775807, []⟩) (by kernel_rfl) (by kernel_rfl) (by kernel_rfl) (.inr opk5h73) (.inr opk5h74)
theorem opk5h85 : DT.leaf.check (okKD Try.prog opkKn opkDer [3, 4, 5, 6] opkET 100000 60 7 (opkArgs false)) opk5k71n = true := check_leaf (by kernel_rfl)
def opk5t71 : DT := .less 7 (4) opk5t72 .leaf
theorem opk5h71 : opk5t71.check (okKD Try.prog opkKn opkDer [3, 4, 5, 6] opkET 100000 60 7 (opkArgs false)) opk5k69n = true := check_less (Ky := opk5k71y) (Kn := opk5k71n) (i := ⟨1, 9223372036854775807, []⟩) (by kernel_rfl) (by kernel_rfl) (by kernel_rfl) (.inr opk5h72) (.inr opk5h85)
def opk5t69 : DT := .less 7 (1) .leaf opk5t71
theorem opk5h69 : opk5t69.check (okKD Try.prog opkKn opkDer [3, 4, 5, 6] opkET 100000 60 7 (opkArgs false)) opk5k68y = true := check_less (Ky := opk5k69y) (Kn := opk5k69n) (i := ⟨-9223372036854775808, 9223372036854775807, []⟩) (by kernel_rfl) (by kernel_rfl) (by kernel_rfl) (.inr opk5h70) (.inr opk5h71)
def opk5k86y : KB := opk5k68n.put 0 ⟨4, 4, [3, 2, 6, 1]⟩
def opk5k86n : KB := opk5k68n.put 0 ⟨-9223372036854775808, 9223372036854775807, [4, 3, 2, 6, 1]⟩
def opk5k87y : KB := opk5k86y.put 1005 ⟨0, 0, []⟩
def opk5k87n : KB := opk5k86y.put 1005 ⟨1, 2000, []⟩
def opk5k88y : KB := opk5k87y.put 1006 ⟨0, 0, []⟩
def opk5k88n : KB := opk5k87y.put 1006 ⟨1, 2000, []⟩
def opk5k89y : KB := opk5k88y.put 7 ⟨0, 0, []⟩
def opk5k89n : KB := opk5k88y.put 7 ⟨-9223372036854775808, 9223372036854775807, [0]⟩
def opk5k90y : KB := opk5k89y.put 8 ⟨0, 0, []⟩
def opk5k90n : KB := opk5k89y.put 8 ⟨-9223372036854775808, 9223372036854775807, [0]⟩
def opk5k91y : KB := opk5k90y.put 9 ⟨0, 0, []⟩
def opk5k91n : KB := opk5k90y.put 9 ⟨-9223372036854775808, 9223372036854775807, [0]⟩
def opk5k92y : KB := opk5k91y.put 2000 ⟨0, 0, []⟩
def opk5k92n : KB := opk5k91y.put 2000 ⟨1, 7, []⟩
theorem opk5h93 : DT.leaf.check (okKD Try.prog opkKn opkDer [3, 4, 5, 6] opkET 100000 60 7 (opkArgs false)) opk5k92y = true := check_leaf (by kernel_rfl)
def opk5k94y : KB := opk5k92n.put 2000 ⟨1, 1, []⟩
def opk5k94n : KB := opk5k92n.put 2000 ⟨2, 7, []⟩
theorem opk5h95 : DT.leaf.check (okKD Try.prog opkKn opkDer [3, 4, 5, 6] opkET 100000 60 7 (opkArgs false)) opk5k94y = true := check_leaf (by kernel_rfl)
def opk5k96y : KB := opk5k94n.put 2000 ⟨2, 2, []⟩
def opk5k96n : KB := opk5k94n.put 2000 ⟨3, 7, []⟩
theorem opk5h97 : DT.leaf.check (okKD Try.prog opkKn opkDer [3, 4, 5, 6] opkET 100000 60 7 (opkArgs false)) opk5k96y = true := check_leaf (by kernel_rfl)
def opk5k98y : KB := opk5k96n.put 2000 ⟨3, 3, []⟩
def opk5k98n : KB := opk5k96n.put 2000 ⟨4, 7, []⟩
theorem opk5h99 : DT.leaf.check (okKD Try.prog opkKn opkDer [3, 4, 5, 6] opkET 100000 60 7 (opkArgs false)) opk5k98y = true := check_leaf (by kernel_rfl)
def opk5k100y : KB := opk5k98n.put 2000 ⟨4, 4, []⟩
def opk5k100n : KB := opk5k98n.put 2000 ⟨5, 7, []⟩
theorem opk5h101 : DT.leaf.check (okKD Try.prog opkKn opkDer [3, 4, 5, 6] opkET 100000 60 7 (opkArgs false)) opk5k100y = true := check_leaf (by kernel_rfl)
def opk5k102y : KB := opk5k100n.put 2000 ⟨5, 5, []⟩
def opk5k102n : KB := opk5k100n.put 2000 ⟨6, 7, []⟩
theorem opk5h103 : DT.leaf.check (okKD Try.prog opkKn opkDer [3, 4, 5, 6] opkET 100000 60 7 (opkArgs false)) opk5k102y = true := check_leaf (by kernel_rfl)
def opk5k104y : KB := opk5k102n.put 2000 ⟨6, 6, []⟩
def opk5k104n : KB := opk5k102n.put 2000 ⟨7, 7, []⟩
theorem opk5h105 : DT.leaf.check (okKD Try.prog opkKn opkDer [3, 4, 5, 6] opkET 100000 60 7 (opkArgs false)) opk5k104y = true := check_leaf (by kernel_rfl)
theorem opk5h106 : DT.leaf.check (okKD Try.prog opkKn opkDer [3, 4, 5, 6] opkET 100000 60 7 (opkArgs false)) opk5k104n = true := check_leaf (by kernel_rfl)
def opk5t104 : DT := .same 2000 (6) .leaf .leaf
theorem opk5h104 : opk5t104.check (okKD Try.prog opkKn opkDer [3, 4, 5, 6] opkET 100000 60 7 (opkArgs false)) opk5k102n = true := check_same (Ky := opk5k104y) (Kn := opk5k104n) (i := ⟨6, 7, []⟩) (by kernel_rfl) (by kernel_rfl) (by kernel_rfl) (.inr opk5h105) (.inr opk5h106)
def opk5t102 : DT := .same 2000 (5) .leaf opk5t104
theorem opk5h102 : opk5t102.check (okKD Try.prog opkKn opkDer [3, 4, 5, 6] opkET 100000 60 7 (opkArgs false)) opk5k100n = true := check_same (Ky := opk5k102y) (Kn := opk5k102n) (i := ⟨5, 7, []⟩) (by kernel_rfl) (by kernel_rfl) (by kernel_rfl) (.inr opk5h103) (.inr opk5h104)
def opk5t100 : DT := .same 2000 (4) .leaf opk5t102
theorem opk5h100 : opk5t100.check (okKD Try.prog opkKn opkDer [3, 4, 5, 6] opkET 100000 60 7 (opkArgs false)) opk5k98n = true := check_same (Ky := opk5k100y) (Kn := opk5k100n) (i := ⟨4, 7, []⟩) (by kernel_rfl) (by kernel_rfl) (by kernel_rfl) (.inr opk5h101) (.inr opk5h102)
def opk5t98 : DT := .same 2000 (3) .leaf opk5t100
theorem opk5h98 : opk5t98.check (okKD Try.prog opkKn opkDer [3, 4, 5, 6] opkET 100000 60 7 (opkArgs false)) opk5k96n = true := check_same (Ky := opk5k98y) (Kn := opk5k98n) (i := ⟨3, 7, []⟩) (by kernel_rfl) (by kernel_rfl) (by kernel_rfl) (.inr opk5h99) (.inr opk5h100)
def opk5t96 : DT := .same 2000 (2) .leaf opk5t98
theorem opk5h96 : opk5t96.check (okKD Try.prog opkKn opkDer [3, 4, 5, 6] opkET 100000 60 7 (opkArgs false)) opk5k94n = true := check_same (Ky := opk5k96y) (Kn := opk5k96n) (i := ⟨2, 7, []⟩) (by kernel_rfl) (by kernel_rfl) (by kernel_rfl) (.inr opk5h97) (.inr opk5h98)
def opk5t94 : DT := .same 2000 (1) .leaf opk5t96
theorem opk5h94 : opk5t94.check (okKD Try.prog opkKn opkDer [3, 4, 5, 6] opkET 100000 60 7 (opkArgs false)) opk5k92n = true := check_same (Ky := opk5k94y) (Kn := opk5k94n) (i := ⟨1, 7, []⟩) (by kernel_rfl) (by kernel_rfl) (by kernel_rfl) (.inr opk5h95) (.inr opk5h96)
def opk5t92 : DT := .same 2000 (0) .leaf opk5t94
theorem opk5h92 : opk5t92.check (okKD Try.prog opkKn opkDer [3, 4, 5, 6] opkET 100000 60 7 (opkArgs false)) opk5k91y = true := check_same (Ky := opk5k92y) (Kn := opk5k92n) (i := ⟨0, 7, []⟩) (by kernel_rfl) (by kernel_rfl) (by kernel_rfl) (.inr opk5h93) (.inr opk5h94)
theorem opk5h107 : DT.leaf.check (okKD Try.prog opkKn opkDer [3, 4, 5, 6] opkET 100000 60 7 (opkArgs false)) opk5k91n = true := check_leaf (by kernel_rfl)
def opk5t91 : DT := .same 9 (0) opk5t92 .leaf
theorem opk5h91 : opk5t91.check (okKD Try.prog opkKn opkDer [3, 4, 5, 6] opkET 100000 60 7 (opkArgs false)) opk5k90y = true := check_same (Ky := opk5k91y) (Kn := opk5k91n) (i := ⟨-9223372036854775808, 9223372036854775807, []⟩) (by kernel_rfl) (by kernel_rfl) (by kernel_rfl) (.inr opk5h92) (.inr opk5h107)
theorem opk5h108 : DT.leaf.check (okKD Try.prog opkKn opkDer [3, 4, 5, 6] opkET 100000 60 7 (opkArgs false)) opk5k90n = true := check_leaf (by kernel_rfl)
def opk5t90 : DT := .same 8 (0) opk5t91 .leaf
theorem opk5h90 : opk5t90.check (okKD Try.prog opkKn opkDer [3, 4, 5, 6] opkET 100000 60 7 (opkArgs false)) opk5k89y = true := check_same (Ky := opk5k90y) (Kn := opk5k90n) (i := ⟨-9223372036854775808, 9223372036854775807, []⟩) (by kernel_rfl) (by kernel_rfl) (by kernel_rfl) (.inr opk5h91) (.inr opk5h108)
theorem opk5h109 : DT.leaf.check (okKD Try.prog opkKn opkDer [3, 4, 5, 6] opkET 100000 60 7 (opkArgs false)) opk5k89n = true := check_leaf (by kernel_rfl)
def opk5t89 : DT := .same 7 (0) opk5t90 .leaf
theorem opk5h89 : opk5t89.check (okKD Try.prog opkKn opkDer [3, 4, 5, 6] opkET 100000 60 7 (opkArgs false)) opk5k88y = true := check_same (Ky := opk5k89y) (Kn := opk5k89n) (i := ⟨-9223372036854775808, 9223372036854775807, []⟩) (by kernel_rfl) (by kernel_rfl) (by kernel_rfl) (.inr opk5h90) (.inr opk5h109)
theorem opk5h110 : DT.leaf.check (okKD Try.prog opkKn opkDer [3, 4, 5, 6] opkET 100000 60 7 (opkArgs false)) opk5k88n = true := check_leaf (by kernel_rfl)
def opk5t88 : DT := .same 1006 (0) opk5t89 .leaf
theorem opk5h88 : opk5t88.check (okKD Try.prog opkKn opkDer [3, 4, 5, 6] opkET 100000 60 7 (opkArgs false)) opk5k87y = true := check_same (Ky := opk5k88y) (Kn := opk5k88n) (i := ⟨0, 2000, []⟩) (by kernel_rfl) (by kernel_rfl) (by kernel_rfl) (.inr opk5h89) (.inr opk5h110)
theorem opk5h111 : DT.leaf.check (okKD Try.prog opkKn opkDer [3, 4, 5, 6] opkET 100000 60 7 (opkArgs false)) opk5k87n = true := check_leaf (by kernel_rfl)
def opk5t87 : DT := .same 1005 (0) opk5t88 .leaf
theorem opk5h87 : opk5t87.check (okKD Try.prog opkKn opkDer [3, 4, 5, 6] opkET 100000 60 7 (opkArgs false)) opk5k86y = true := check_same (Ky := opk5k87y) (Kn := opk5k87n) (i := ⟨0, 2000, []⟩) (by kernel_rfl) (by kernel_rfl) (by kernel_rfl) (.inr opk5h88) (.inr opk5h111)
def opk5k112y : KB := opk5k86n.put 0 ⟨5, 5, [4, 3, 2, 6, 1]⟩
def opk5k112n : KB := opk5k86n.put 0 ⟨-9223372036854775808, 9223372036854775807, [5, 4, 3, 2, 6, 1]⟩
def opk5k113y : KB := opk5k112y.put 1005 ⟨0, 0, []⟩
def opk5k113n : KB := opk5k112y.put 1005 ⟨1, 2000, []⟩
def opk5k114y : KB := opk5k113y.put 1006 ⟨0, 0, []⟩
def opk5k114n : KB := opk5k113y.put 1006 ⟨1, 2000, []⟩
def opk5k115y : KB := opk5k114y.put 7 ⟨0, 0, []⟩
def opk5k115n : KB := opk5k114y.put 7 ⟨-9223372036854775808, 9223372036854775807, [0]⟩
def opk5k116y : KB := opk5k115y.put 8 ⟨0, 0, []⟩
def opk5k116n : KB := opk5k115y.put 8 ⟨-9223372036854775808, 9223372036854775807, [0]⟩
def opk5k117y : KB := opk5k116y.put 9 ⟨0, 0, []⟩
def opk5k117n : KB := opk5k116y.put 9 ⟨-9223372036854775808, 9223372036854775807, [0]⟩
theorem opk5h118 : DT.leaf.check (okKD Try.prog opkKn opkDer [3, 4, 5, 6] opkET 100000 60 7 (opkArgs false)) opk5k117y = true := check_leaf (by kernel_rfl)
theorem opk5h119 : DT.leaf.check (okKD Try.prog opkKn opkDer [3, 4, 5, 6] opkET 100000 60 7 (opkArgs false)) opk5k117n = true := check_leaf (by kernel_rfl)
def opk5t117 : DT := .same 9 (0) .leaf .leaf
theorem opk5h117 : opk5t117.check (okKD Try.prog opkKn opkDer [3, 4, 5, 6] opkET 100000 60 7 (opkArgs false)) opk5k116y = true := check_same (Ky := opk5k117y) (Kn := opk5k117n) (i := ⟨-9223372036854775808, 9223372036854775807, []⟩) (by kernel_rfl) (by kernel_rfl) (by kernel_rfl) (.inr opk5h118) (.inr opk5h119)
theorem opk5h120 : DT.leaf.check (okKD Try.prog opkKn opkDer [3, 4, 5, 6] opkET 100000 60 7 (opkArgs false)) opk5k116n = true := check_leaf (by kernel_rfl)
def opk5t116 : DT := .same 8 (0) opk5t117 .leaf
theorem opk5h116 : opk5t116.check (okKD Try.prog opkKn opkDer [3, 4, 5, 6] opkET 100000 60 7 (opkArgs false)) opk5k115y = true := check_same (Ky := opk5k116y) (Kn := opk5k116n) (i := ⟨-9223372036854775808, 9223372036854775807, []⟩) (by kernel_rfl) (by kernel_rfl) (by kernel_rfl) (.inr opk5h117) (.inr opk5h120)
theorem opk5h121 : DT.leaf.check (okKD Try.prog opkKn opkDer [3, 4, 5, 6] opkET 100000 60 7 (opkArgs false)) opk5k115n = true := check_leaf (by kernel_rfl)
def opk5t115 : DT := .same 7 (0) opk5t116 .leaf
theorem opk5h115 : opk5t115.check (okKD Try.prog opkKn opkDer [3, 4, 5, 6] opkET 100000 60 7 (opkArgs false)) opk5k114y = true := check_same (Ky := opk5k115y) (Kn := opk5k115n) (i := ⟨-9223372036854775808, 9223372036854775807, []⟩) (by kernel_rfl) (by kernel_rfl) (by kernel_rfl) (.inr opk5h116) (.inr opk5h121)
theorem opk5h122 : DT.leaf.check (okKD Try.prog opkKn opkDer [3, 4, 5, 6] opkET 100000 60 7 (opkArgs false)) opk5k114n = true := check_leaf (by kernel_rfl)
def opk5t114 : DT := .same 1006 (0) opk5t115 .leaf
theorem opk5h114 : opk5t114.check (okKD Try.prog opkKn opkDer [3, 4, 5, 6] opkET 100000 60 7 (opkArgs false)) opk5k113y = true := check_same (Ky := opk5k114y) (Kn := opk5k114n) (i := ⟨0, 2000, []⟩) (by kernel_rfl) (by kernel_rfl) (by kernel_rfl) (.inr opk5h115) (.inr opk5h122)
theorem opk5h123 : DT.leaf.check (okKD Try.prog opkKn opkDer [3, 4, 5, 6] opkET 100000 60 7 (opkArgs false)) opk5k113n = true := check_leaf (by kernel_rfl)
def opk5t113 : DT := .same 1005 (0) opk5t114 .leaf
theorem opk5h113 : opk5t113.check (okKD Try.prog opkKn opkDer [3, 4, 5, 6] opkET 100000 60 7 (opkArgs false)) opk5k112y = true := check_same (Ky := opk5k113y) (Kn := opk5k113n) (i := ⟨0, 2000, []⟩) (by kernel_rfl) (by kernel_rfl) (by kernel_rfl) (.inr opk5h114) (.inr opk5h123)
def opk5k124y : KB := opk5k112n.put 0 ⟨7, 7, [5, 4, 3, 2, 6, 1]⟩
def opk5k124n : KB := opk5k112n.put 0 ⟨-9223372036854775808, 9223372036854775807, [7, 5, 4, 3, 2, 6, 1]⟩
def opk5k125y : KB := opk5k124y.put 1005 ⟨0, 0, []⟩
def opk5k125n : KB := opk5k124y.put 1005 ⟨1, 2000, []⟩
def opk5k126y : KB := opk5k125y.put 1006 ⟨0, 0, []⟩
def opk5k126n : KB := opk5k125y.put 1006 ⟨1, 2000, []⟩
def opk5k127y : KB := opk5k126y.put 7 ⟨0, 0, []⟩
def opk5k127n : KB := opk5k126y.put 7 ⟨-9223372036854775808, 9223372036854775807, [0]⟩
def opk5k128y : KB := opk5k127y.put 8 ⟨0, 0, []⟩
def opk5k128n : KB := opk5k127y.put 8 ⟨-9223372036854775808, 9223372036854775807, [0]⟩
def opk5k129y : KB := opk5k128y.put 9 ⟨0, 0, []⟩
def opk5k129n : KB := opk5k128y.put 9 ⟨-9223372036854775808, 9223372036854775807, [0]⟩
theorem opk5h130 : DT.leaf.check (okKD Try.prog opkKn opkDer [3, 4, 5, 6] opkET 100000 60 7 (opkArgs false)) opk5k129y = true := check_leaf (by kernel_rfl)
theorem opk5h131 : DT.leaf.check (okKD Try.prog opkKn opkDer [3, 4, 5, 6] opkET 100000 60 7 (opkArgs false)) opk5k129n = true := check_leaf (by kernel_rfl)
def opk5t129 : DT := .same 9 (0) .leaf .leaf
theorem opk5h129 : opk5t129.check (okKD Try.prog opkKn opkDer [3, 4, 5, 6] opkET 100000 60 7 (opkArgs false)) opk5k128y = true := check_same (Ky := opk5k129y) (Kn := opk5k129n) (i := ⟨-9223372036854775808, 9223372036854775807, []⟩) (by kernel_rfl) (by kernel_rfl) (by kernel_rfl) (.inr opk5h130) (.inr opk5h131)
theorem opk5h132 : DT.leaf.check (okKD Try.prog opkKn opkDer [3, 4, 5, 6] opkET 100000 60 7 (opkArgs false)) opk5k128n = true := check_leaf (by kernel_rfl)
def opk5t128 : DT := .same 8 (0) opk5t129 .leaf
theorem opk5h128 : opk5t128.check (okKD Try.prog opkKn opkDer [3, 4, 5, 6] opkET 100000 60 7 (opkArgs false)) opk5k127y = true := check_same (Ky := opk5k128y) (Kn := opk5k128n) (i := ⟨-9223372036854775808, 9223372036854775807, []⟩) (by kernel_rfl) (by kernel_rfl) (by kernel_rfl) (.inr opk5h129) (.inr opk5h132)
theorem opk5h133 : DT.leaf.check (okKD Try.prog opkKn opkDer [3, 4, 5, 6] opkET 100000 60 7 (opkArgs false)) opk5k127n = true := check_leaf (by kernel_rfl)
def opk5t127 : DT := .same 7 (0) opk5t128 .leaf
theorem opk5h127 : opk5t127.check (okKD Try.prog opkKn opkDer [3, 4, 5, 6] opkET 100000 60 7 (opkArgs false)) opk5k126y = true := check_same (Ky := opk5k127y) (Kn := opk5k127n) (i := ⟨-9223372036854775808, 9223372036854775807, []⟩) (by kernel_rfl) (by kernel_rfl) (by kernel_rfl) (.inr opk5h128) (.inr opk5h133)
theorem opk5h134 : DT.leaf.check (okKD Try.prog opkKn opkDer [3, 4, 5, 6] opkET 100000 60 7 (opkArgs false)) opk5k126n = true := check_leaf (by kernel_rfl)
def opk5t126 : DT := .same 1006 (0) opk5t127 .leaf
theorem opk5h126 : opk5t126.check (okKD Try.prog opkKn opkDer [3, 4, 5, 6] opkET 100000 60 7 (opkArgs false)) opk5k125y = true := check_same (Ky := opk5k126y) (Kn := opk5k126n) (i := ⟨0, 2000, []⟩) (by kernel_rfl) (by kernel_rfl) (by kernel_rfl) (.inr opk5h127) (.inr opk5h134)
theorem opk5h135 : DT.leaf.check (okKD Try.prog opkKn opkDer [3, 4, 5, 6] opkET 100000 60 7 (opkArgs false)) opk5k125n = true := check_leaf (by kernel_rfl)
def opk5t125 : DT := .same 1005 (0) opk5t126 .leaf
theorem opk5h125 : opk5t125.check (okKD Try.prog opkKn opkDer [3, 4, 5, 6] opkET 100000 60 7 (opkArgs false)) opk5k124y = true := check_same (Ky := opk5k125y) (Kn := opk5k125n) (i := ⟨0, 2000, []⟩) (by kernel_rfl) (by kernel_rfl) (by kernel_rfl) (.inr opk5h126) (.inr opk5h135)
theorem opk5h136 : DT.leaf.check (okKD Try.prog opkKn opkDer [3, 4, 5, 6] opkET 100000 60 7 (opkArgs false)) opk5k124n = true := check_leaf (by kernel_rfl)
def opk5t124 : DT := .same 0 (7) opk5t125 .leaf
theorem opk5h124 : opk5t124.check (okKD Try.prog opkKn opkDer [3, 4, 5, 6] opkET 100000 60 7 (opkArgs false)) opk5k112n = true := check_same (Ky := opk5k124y) (Kn := opk5k124n) (i := ⟨-9223372036854775808, 9223372036854775807, [5, 4, 3, 2, 6, 1]⟩) (by kernel_rfl) (by kernel_rfl) (by kernel_rfl) (.inr opk5h125) (.inr opk5h136)
def opk5t112 : DT := .same 0 (5) opk5t113 opk5t124
theorem opk5h112 : opk5t112.check (okKD Try.prog opkKn opkDer [3, 4, 5, 6] opkET 100000 60 7 (opkArgs false)) opk5k86n = true := check_same (Ky := opk5k112y) (Kn := opk5k112n) (i := ⟨-9223372036854775808, 9223372036854775807, [4, 3, 2, 6, 1]⟩) (by kernel_rfl) (by kernel_rfl) (by kernel_rfl) (.inr opk5h113) (.inr opk5h124)
def opk5t86 : DT := .same 0 (4) opk5t87 opk5t112
theorem opk5h86 : opk5t86.check (okKD Try.prog opkKn opkDer [3, 4, 5, 6] opkET 100000 60 7 (opkArgs false)) opk5k68n = true := check_same (Ky := opk5k86y) (Kn := opk5k86n) (i := ⟨-9223372036854775808, 9223372036854775807, [3, 2, 6, 1]⟩) (by kernel_rfl) (by kernel_rfl) (by kernel_rfl) (.inr opk5h87) (.inr opk5h112)
def opk5t68 : DT := .same 0 (3) opk5t69 opk5t86
theorem opk5h68 : opk5t68.check (okKD Try.prog opkKn opkDer [3, 4, 5, 6] opkET 100000 60 7 (opkArgs false)) opk5k48n = true := check_same (Ky := opk5k68y) (Kn := opk5k68n) (i := ⟨-9223372036854775808, 9223372036854775807, [2, 6, 1]⟩) (by kernel_rfl) (by kernel_rfl) (by kernel_rfl) (.inr opk5h69) (.inr opk5h86)
def opk5t48 : DT := .same 0 (2) opk5t49 opk5t68
theorem opk5h48 : opk5t48.check (okKD Try.prog opkKn opkDer [3, 4, 5, 6] opkET 100000 60 7 (opkArgs false)) opk5k32n = true := check_same (Ky := opk5k48y) (Kn := opk5k48n) (i := ⟨-9223372036854775808, 9223372036854775807, [6, 1]⟩) (by kernel_rfl) (by kernel_rfl) (by kernel_rfl) (.inr opk5h49) (.inr opk5h68)
def opk5t32 : DT := .same 0 (6) opk5t33 opk5t48
theorem opk5h32 : opk5t32.check (okKD Try.prog opkKn opkDer [3, 4, 5, 6] opkET 100000 60 7 (opkArgs false)) opk5k16n = true := check_same (Ky := opk5k32y) (Kn := opk5k32n) (i := ⟨-9223372036854775808, 9223372036854775807, [1]⟩) (by kernel_rfl) (by kernel_rfl) (by kernel_rfl) (.inr opk5h33) (.inr opk5h48)
def opk5t16 : DT := .same 0 (1) opk5t17 opk5t32
theorem opk5h16 : opk5t16.check (okKD Try.prog opkKn opkDer [3, 4, 5, 6] opkET 100000 60 7 (opkArgs false)) opk5k15y = true := check_same (Ky := opk5k16y) (Kn := opk5k16n) (i := ⟨-9223372036854775808, 9223372036854775807, []⟩) (by kernel_rfl) (by kernel_rfl) (by kernel_rfl) (.inr opk5h17) (.inr opk5h32)
theorem opk5h137 : DT.leaf.check (okKD Try.prog opkKn opkDer [3, 4, 5, 6] opkET 100000 60 7 (opkArgs false)) opk5k15n = true := check_leaf (by kernel_rfl)
def opk5t15 : DT := .less 1004 (17) opk5t16 .leaf
theorem opk5h15 : opk5t15.check (okKD Try.prog opkKn opkDer [3, 4, 5, 6] opkET 100000 60 7 (opkArgs false)) opk5k13n = true := check_less (Ky := opk5k15y) (Kn := opk5k15n) (i := ⟨1, 2000, []⟩) (by kernel_rfl) (by kernel_rfl) (by kernel_rfl) (.inr opk5h16) (.inr opk5h137)
def opk5t13 : DT := .less 1004 (1) .leaf opk5t15
theorem opk5h13 : opk5t13.check (okKD Try.prog opkKn opkDer [3, 4, 5, 6] opkET 100000 60 7 (opkArgs false)) opk5k12y = true := check_less (Ky := opk5k13y) (Kn := opk5k13n) (i := ⟨0, 2000, []⟩) (by kernel_rfl) (by kernel_rfl) (by kernel_rfl) (.inr opk5h14) (.inr opk5h15)
theorem opk5h138 : DT.leaf.check (okKD Try.prog opkKn opkDer [3, 4, 5, 6] opkET 100000 60 7 (opkArgs false)) opk5k12n = true := check_leaf (by kernel_rfl)
def opk5t12 : DT := .less 1003 (17) opk5t13 .leaf
theorem opk5h12 : opk5t12.check (okKD Try.prog opkKn opkDer [3, 4, 5, 6] opkET 100000 60 7 (opkArgs false)) opk5k10n = true := check_less (Ky := opk5k12y) (Kn := opk5k12n) (i := ⟨1, 2000, []⟩) (by kernel_rfl) (by kernel_rfl) (by kernel_rfl) (.inr opk5h13) (.inr opk5h138)
def opk5t10 : DT := .less 1003 (1) .leaf opk5t12
theorem opk5h10 : opk5t10.check (okKD Try.prog opkKn opkDer [3, 4, 5, 6] opkET 100000 60 7 (opkArgs false)) opk5k9y = true := check_less (Ky := opk5k10y) (Kn := opk5k10n) (i := ⟨0, 2000, []⟩) (by kernel_rfl) (by kernel_rfl) (by kernel_rfl) (.inr opk5h11) (.inr opk5h12)
theorem opk5h139 : DT.leaf.check (okKD Try.prog opkKn opkDer [3, 4, 5, 6] opkET 100000 60 7 (opkArgs false)) opk5k9n = true := check_leaf (by kernel_rfl)
def opk5t9 : DT := .less 2 (1099511627777) opk5t10 .leaf
theorem opk5h9 : opk5t9.check (okKD Try.prog opkKn opkDer [3, 4, 5, 6] opkET 100000 60 7 (opkArgs false)) opk5k7n = true := check_less (Ky := opk5k9y) (Kn := opk5k9n) (i := ⟨1, 9223372036854775807, []⟩) (by kernel_rfl) (by kernel_rfl) (by kernel_rfl) (.inr opk5h10) (.inr opk5h139)
def opk5t7 : DT := .less 2 (1) .leaf opk5t9
theorem opk5h7 : opk5t7.check (okKD Try.prog opkKn opkDer [3, 4, 5, 6] opkET 100000 60 7 (opkArgs false)) opk5k6y = true := check_less (Ky := opk5k7y) (Kn := opk5k7n) (i := ⟨-9223372036854775808, 9223372036854775807, []⟩) (by kernel_rfl) (by kernel_rfl) (by kernel_rfl) (.inr opk5h8) (.inr opk5h9)
theorem opk5h140 : DT.leaf.check (okKD Try.prog opkKn opkDer [3, 4, 5, 6] opkET 100000 60 7 (opkArgs false)) opk5k6n = true := check_leaf (by kernel_rfl)
def opk5t6 : DT := .less 1 (1048577) opk5t7 .leaf
theorem opk5h6 : opk5t6.check (okKD Try.prog opkKn opkDer [3, 4, 5, 6] opkET 100000 60 7 (opkArgs false)) opk5k4n = true := check_less (Ky := opk5k6y) (Kn := opk5k6n) (i := ⟨1, 9223372036854775807, []⟩) (by kernel_rfl) (by kernel_rfl) (by kernel_rfl) (.inr opk5h7) (.inr opk5h140)
def opk5t4 : DT := .less 1 (1) .leaf opk5t6
theorem opk5h4 : opk5t4.check (okKD Try.prog opkKn opkDer [3, 4, 5, 6] opkET 100000 60 7 (opkArgs false)) opk5k3y = true := check_less (Ky := opk5k4y) (Kn := opk5k4n) (i := ⟨-9223372036854775808, 9223372036854775807, []⟩) (by kernel_rfl) (by kernel_rfl) (by kernel_rfl) (.inr opk5h5) (.inr opk5h6)
theorem opk5h141 : DT.leaf.check (okKD Try.prog opkKn opkDer [3, 4, 5, 6] opkET 100000 60 7 (opkArgs false)) opk5k3n = true := check_leaf (by kernel_rfl)
def opk5t3 : DT := .less 1006 (2001) opk5t4 .leaf
theorem opk5h3 : opk5t3.check (okKD Try.prog opkKn opkDer [3, 4, 5, 6] opkET 100000 60 7 (opkArgs false)) opk5k2y = true := check_less (Ky := opk5k3y) (Kn := opk5k3n) (i := ⟨0, 9223372036854775807, []⟩) (by kernel_rfl) (by kernel_rfl) (by kernel_rfl) (.inr opk5h4) (.inr opk5h141)
theorem opk5h142 : DT.leaf.check (okKD Try.prog opkKn opkDer [3, 4, 5, 6] opkET 100000 60 7 (opkArgs false)) opk5k2n = true := check_leaf (by kernel_rfl)
def opk5t2 : DT := .less 1005 (2001) opk5t3 .leaf
theorem opk5h2 : opk5t2.check (okKD Try.prog opkKn opkDer [3, 4, 5, 6] opkET 100000 60 7 (opkArgs false)) opk5k1y = true := check_less (Ky := opk5k2y) (Kn := opk5k2n) (i := ⟨0, 9223372036854775807, []⟩) (by kernel_rfl) (by kernel_rfl) (by kernel_rfl) (.inr opk5h3) (.inr opk5h142)
theorem opk5h143 : DT.leaf.check (okKD Try.prog opkKn opkDer [3, 4, 5, 6] opkET 100000 60 7 (opkArgs false)) opk5k1n = true := check_leaf (by kernel_rfl)
def opk5t1 : DT := .less 1004 (2001) opk5t2 .leaf
theorem opk5h1 : opk5t1.check (okKD Try.prog opkKn opkDer [3, 4, 5, 6] opkET 100000 60 7 (opkArgs false)) opk5k0y = true := check_less (Ky := opk5k1y) (Kn := opk5k1n) (i := ⟨0, 9223372036854775807, []⟩) (by kernel_rfl) (by kernel_rfl) (by kernel_rfl) (.inr opk5h2) (.inr opk5h143)
theorem opk5h144 : DT.leaf.check (okKD Try.prog opkKn opkDer [3, 4, 5, 6] opkET 100000 60 7 (opkArgs false)) opk5k0n = true := check_leaf (by kernel_rfl)
def opk5t0 : DT := .less 1003 (2001) opk5t1 .leaf
theorem opk5h0 : opk5t0.check (okKD Try.prog opkKn opkDer [3, 4, 5, 6] opkET 100000 60 7 (opkArgs false)) opkKB5 = true := check_less (Ky := opk5k0y) (Kn := opk5k0n) (i := ⟨0, 9223372036854775807, []⟩) (by kernel_rfl) (by kernel_rfl) (by kernel_rfl) (.inr opk5h1) (.inr opk5h144)
theorem opkCheck5 : opk5t0.check (okKD Try.prog opkKn opkDer [3, 4, 5, 6] opkET 100000 60 7 (opkArgs false)) (opkKB ⟨1, 1099511627776, []⟩ ⟨1099511627777, 2199023255552, []⟩) = true := opk5h0
end Go.Proofs.Ytliljfncbljfpaa
