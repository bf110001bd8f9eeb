/- OpKinds: tree 1. -/
import Derived.Test.YtliljfncbljfpaaOpKa
import Derived.ProofKit
namespace Go.Proofs.Ytliljfncbljfpaa
open Go.RowKit
set_option linter.unusedVariables false
set_option linter.unusedSimpArgs false
set_option maxRecDepth 100000

def opkKB1 : KB := opkKB ⟨1, 1099511627776, []⟩ ⟨1099511627777, 2199023255552, []⟩
def opk1k0y : KB := opkKB1.put 1003 ⟨0, 2000, []⟩
def opk1k0n : KB := opkKB1.put 1003 ⟨2001, 9223372036854775807, []⟩
def opk1k1y : KB := opk1k0y.put 1004 ⟨0, 2000, []⟩
def opk1k1n : KB := opk1k0y.put 1004 ⟨2001, 9223372036854775807, []⟩
def opk1k2y : KB := opk1k1y.put 1005 ⟨0, 2000, []⟩
def opk1k2n : KB := opk1k1y.put 1005 ⟨2001, 9223372036854775807, []⟩
def opk1k3y : KB := opk1k2y.put 1006 ⟨0, 2000, []⟩
def opk1k3n : KB := opk1k2y.put 1006 ⟨2001, 9223372036854775807, []⟩
def opk1k4y : KB := opk1k3y.put 1 ⟨-9223372036854775808, 0, []⟩
def opk1k4n : KB := opk1k3y.put 1 ⟨1, 9223372036854775807, []⟩
theorem opk1h5 : DT.leaf.check (okKD Try.prog opkKn opkDer [3, 4, 5, 6] opkET 100000 60 7 (opkArgs true)) opk1k4y = true := check_leaf (by kernel_rfl)
def opk1k6y : KB := opk1k4n.put 1 ⟨1, 1048576, []⟩
def opk1k6n : KB := opk1k4n.put 1 ⟨1048577, 9223372036854775807, []⟩
def opk1k7y : KB := opk1k6y.put 2 ⟨-9223372036854775808, 0, []⟩
def opk1k7n : KB := opk1k6y.put 2 ⟨1, 9223372036854775807, []⟩
theorem opk1h8 : DT.leaf.check (okKD Try.prog opkKn opkDer [3, 4, 5, 6] opkET 100000 60 7 (opkArgs true)) opk1k7y = true := check_leaf (by kernel_rfl)
def opk1k9y : KB := opk1k7n.put 2 ⟨1, 1099511627776, []⟩
def opk1k9n : KB := opk1k7n.put 2 ⟨1099511627777, 9223372036854775807, []⟩
def opk1k10y : KB := opk1k9y.put 1003 ⟨0, 0, []⟩
def opk1k10n : KB := opk1k9y.put 1003 ⟨1, 2000, []⟩
theorem opk1h11 : DT.leaf.check (okKD Try.prog opkKn opkDer [3, 4, 5, 6] opkET 100000 60 7 (opkArgs true)) opk1k10y = true := check_leaf (by kernel_rfl)
def opk1k12y : KB := opk1k10n.put 1003 ⟨1, 16, []⟩
def opk1k12n : KB := opk1k10n.put 1003 ⟨17, 2000, []⟩
def opk1k13y : KB := opk1k12y.put 1004 ⟨0, 0, []⟩
def opk1k13n : KB := opk1k12y.put 1004 ⟨1, 2000, []⟩
theorem opk1h14 : DT.leaf.check (okKD Try.prog opkKn opkDer [3, 4, 5, 6] opkET 100000 60 7 (opkArgs true)) opk1k13y = true := check_leaf (by kernel_rfl)
def opk1k15y : KB := opk1k13n.put 1004 ⟨1, 16, []⟩
def opk1k15n : KB := opk1k13n.put 1004 ⟨17, 2000, []⟩
def opk1k16y : KB := opk1k15y.put 0 ⟨1, 1, []⟩
def opk1k16n : KB := opk1k15y.put 0 ⟨-9223372036854775808, 9223372036854775807, [1]⟩
def opk1k17y : KB := opk1k16y.put 7 ⟨-9223372036854775808, -1, []⟩
def opk1k17n : KB := opk1k16y.put 7 ⟨0, 9223372036854775807, []⟩
theorem opk1h18 : DT.leaf.check (okKD Try.prog opkKn opkDer [3, 4, 5, 6] opkET 100000 60 7 (opkArgs true)) opk1k17y = true := check_leaf (by kernel_rfl)
def opk1k19y : KB := opk1k17n.put 7 ⟨0, 3, []⟩
def opk1k19n : KB := opk1k17n.put 7 ⟨4, 9223372036854775807, []⟩
def opk1k20y : KB := opk1k19y.put 8 ⟨-9223372036854775808, 0, []⟩
def opk1k20n : KB := opk1k19y.put 8 ⟨1, 9223372036854775807, []⟩
theorem opk1h21 : DT.leaf.check (okKD Try.prog opkKn opkDer [3, 4, 5, 6] opkET 100000 60 7 (opkArgs true)) opk1k20y = true := check_leaf (by kernel_rfl)
def opk1k22y : KB := opk1k20n.put 8 ⟨1, 1048576, []⟩
def opk1k22n : KB := opk1k20n.put 8 ⟨1048577, 9223372036854775807, []⟩
def opk1k23y : KB := opk1k22y.put 1005 ⟨0, 0, []⟩
def opk1k23n : KB := opk1k22y.put 1005 ⟨1, 2000, []⟩
def opk1k24y : KB := opk1k23y.put 1006 ⟨0, 0, []⟩
def opk1k24n : KB := opk1k23y.put 1006 ⟨1, 2000, []⟩
def opk1k25y : KB := opk1k24y.put 9 ⟨0, 0, []⟩
def opk1k25n : KB := opk1k24y.put 9 ⟨-9223372036854775808, 9223372036854775807, [0]⟩
theorem opk1h26 : DT.leaf.check (okKD Try.prog opkKn opkDer [3, 4, 5, 6] opkET 100000 60 7 (opkArgs true)) opk1k25y = true := check_leaf (by kernel_rfl)
theorem opk1h27 : DT.leaf.check (okKD Try.prog opkKn opkDer [3, 4, 5, 6] opkET 100000 60 7 (opkArgs true)) opk1k25n = true := check_leaf (by kernel_rfl)
def opk1t25 : DT := .same 9 (0) .leaf .leaf
theorem opk1h25 : opk1t25.check (okKD Try.prog opkKn opkDer [3, 4, 5, 6] opkET 100000 60 7 (opkArgs true)) opk1k24y = true := check_same (Ky := opk1k25y) (Kn := opk1k25n) (i := ⟨-9223372036854775808, 9223372036854775807, []⟩) (by kernel_rfl) (by kernel_rfl) (by kernel_rfl) (.inr opk1h26) (.inr opk1h27)
theorem opk1h28 : DT.leaf.check (okKD Try.prog opkKn opkDer [3, 4, 5, 6] opkET 100000 60 7 (opkArgs true)) opk1k24n = true := check_leaf (by kernel_rfl)
def opk1t24 : DT := .same 1006 (0) opk1t25 .leaf
theorem opk1h24 : opk1t24.check (okKD Try.prog opkKn opkDer [3, 4, 5, 6] opkET 100000 60 7 (opkArgs true)) opk1k23y = true := check_same (Ky := opk1k24y) (Kn := opk1k24n) (i := ⟨0, 2000, []⟩) (by kernel_rfl) (by kernel_rfl) (by kernel_rfl) (.inr opk1h25) (.inr opk1h28)
theorem opk1h29 : DT.leaf.check (okKD Try.prog opkKn opkDer [3, 4, 5, 6] opkET 100000 60 7 (opkArgs true)) opk1k23n = true := check_leaf (by kernel_rfl)
def opk1t23 : DT := .same 1005 (0) opk1t24 .leaf
theorem opk1h23 : opk1t23.check (okKD Try.prog opkKn opkDer [3, 4, 5, 6] opkET 100000 60 7 (opkArgs true)) opk1k22y = true := check_same (Ky := opk1k23y) (Kn := opk1k23n) (i := ⟨0, 2000, []⟩) (by kernel_rfl) (by kernel_rfl) (by kernel_rfl) (.inr opk1h24) (.inr opk1h29)
theorem opk1h30 : DT.leaf.check (okKD Try.prog opkKn opkDer [3, 4, 5, 6] opkET 100000 60 7 (opkArgs true)) opk1k22n = true := check_leaf (by kernel_rfl)
def opk1t22 : DT := .less 8 (1048577) opk1t23 .leaf
theorem opk1h22 : opk1t22.check (okKD Try.prog opkKn opkDer [3, 4, 5, 6] opkET 100000 60 7 (opkArgs true)) opk1k20n = true := check_less (Ky := opk1k22y) (Kn := opk1k22n) (i := ⟨1, 9223372036854775807, []⟩) (by kernel_rfl) (by kernel_rfl) (by kernel_rfl) (.inr opk1h23) (.inr opk1h30)
def opk1t20 : DT := .less 8 (1) .leaf opk1t22
theorem opk1h20 : opk1t20.check (okKD Try.prog opkKn opkDer [3, 4, 5, 6] opkET 100000 60 7 (opkArgs true)) opk1k19y = true := check_less (Ky := opk1k20y) (Kn := opk1k20n) (i := ⟨-9223372036854775808, 9223372036854775807, []⟩) (by kernel_rfl) (by kernel_rfl) (by kernel_rfl) (.inr opk1h21) (.inr opk1h22)
theorem opk1h31 : DT.leaf.check (okKD Try.prog opkKn opkDer [3, 4, 5, 6] opkET 100000 60 7 (opkArgs true)) opk1k19n = true := check_leaf (by kernel_rfl)
def opk1t19 : DT := .less 7 (4) opk1t20 .leaf
theorem opk1h19 : opk1t19.check (okKD Try.prog opkKn opkDer [3, 4, 5, 6] opkET 100000 60 7 (opkArgs true)) opk1k17n = true := check_less (Ky := opk1k19y) (Kn := opk1k19n) (i := ⟨0, 9223372036854775807, []⟩) (by kernel_rfl) (by kernel_rfl) (by kernel_rfl) (.inr opk1h20) (.inr opk1h31)
def opk1t17 : DT := .less 7 (0) .leaf opk1t19
theorem opk1h17 : opk1t17.check (okKD Try.prog opkKn opkDer [3, 4, 5, 6] opkET 100000 60 7 (opkArgs true)) opk1k16y = true := check_less (Ky := opk1k17y) (Kn := opk1k17n) (i := ⟨-9223372036854775808, 9223372036854775807, []⟩) (by kernel_rfl) (by kernel_rfl) (by kernel_rfl) (.inr opk1h18) (.inr opk1h19)
def opk1k32y : KB := opk1k16n.put 0 ⟨6, 6, [1]⟩
def opk1k32n : KB := opk1k16n.put 0 ⟨-9223372036854775808, 9223372036854775807, [6, 1]⟩
def opk1k33y : KB := opk1k32y.put 7 ⟨-9223372036854775808, -1, []⟩
def opk1k33n : KB := opk1k32y.put 7 ⟨0, 9223372036854775807, []⟩
theorem opk1h34 : DT.leaf.check (okKD Try.prog opkKn opkDer [3, 4, 5, 6] opkET 100000 60 7 (opkArgs true)) opk1k33y = true := check_leaf (by kernel_rfl)
def opk1k35y : KB := opk1k33n.put 7 ⟨0, 3, []⟩
def opk1k35n : KB := opk1k33n.put 7 ⟨4, 9223372036854775807, []⟩
def opk1k36y : KB := opk1k35y.put 8 ⟨-9223372036854775808, 0, []⟩
def opk1k36n : KB := opk1k35y.put 8 ⟨1, 9223372036854775807, []⟩
theorem opk1h37 : DT.leaf.check (okKD Try.prog opkKn opkDer [3, 4, 5, 6] opkET 100000 60 7 (opkArgs true)) opk1k36y = true := check_leaf (by kernel_rfl)
def opk1k38y : KB := opk1k36n.put 8 ⟨1, 1048576, []⟩
def opk1k38n : KB := opk1k36n.put 8 ⟨1048577, 9223372036854775807, []⟩
def opk1k39y : KB := opk1k38y.put 1005 ⟨0, 0, []⟩
def opk1k39n : KB := opk1k38y.put 1005 ⟨1, 2000, []⟩
def opk1k40y : KB := opk1k39y.put 1006 ⟨0, 0, []⟩
def opk1k40n : KB := opk1k39y.put 1006 ⟨1, 2000, []⟩
def opk1k41y : KB := opk1k40y.put 9 ⟨0, 0, []⟩
def opk1k41n : KB := opk1k40y.put 9 ⟨-9223372036854775808, 9223372036854775807, [0]⟩
theorem opk1h42 : DT.leaf.check (okKD Try.prog opkKn opkDer [3, 4, 5, 6] opkET 100000 60 7 (opkArgs true)) opk1k41y = true := check_leaf (by kernel_rfl)
theorem opk1h43 : DT.leaf.check (okKD Try.prog opkKn opkDer [3, 4, 5, 6] opkET 100000 60 7 (opkArgs true)) opk1k41n = true := check_leaf (by kernel_rfl)
def opk1t41 : DT := .same 9 (0) .leaf .leaf
theorem opk1h41 : opk1t41.check (okKD Try.prog opkKn opkDer [3, 4, 5, 6] opkET 100000 60 7 (opkArgs true)) opk1k40y = true := check_same (Ky := opk1k41y) (Kn := opk1k41n) (i := ⟨-9223372036854775808, 9223372036854775807, []⟩) (by kernel_rfl) (by kernel_rfl) (by kernel_rfl) (.inr opk1h42) (.inr opk1h43)
theorem opk1h44 : DT.leaf.check (okKD Try.prog opkKn opkDer [3, 4, 5, 6] opkET 100000 60 7 (opkArgs true)) opk1k40n = true := check_leaf (by kernel_rfl)
def opk1t40 : DT := .same 1006 (0) opk1t41 .leaf
theorem opk1h40 : opk1t40.check (okKD Try.prog opkKn opkDer [3, 4, 5, 6] opkET 100000 60 7 (opkArgs true)) opk1k39y = true := check_same (Ky := opk1k40y) (Kn := opk1k40n) (i := ⟨0, 2000, []⟩) (by kernel_rfl) (by kernel_rfl) (by kernel_rfl) (.inr opk1h41) (.inr opk1h44)
theorem opk1h45 : DT.leaf.check (okKD Try.prog opkKn opkDer [3, 4, 5, 6] opkET 100000 60 7 (opkArgs true)) opk1k39n = true := check_leaf (by kernel_rfl)
def opk1t39 : DT := .same 1005 (0) opk1t40 .leaf
theorem opk1h39 : opk1t39.check (okKD Try.prog opkKn opkDer [3, 4, 5, 6] opkET 100000 60 7 (opkArgs true)) opk1k38y = true := check_same (Ky := opk1k39y) (Kn := opk1k39n) (i := ⟨0, 2000, []⟩) (by kernel_rfl) (by kernel_rfl) (by kernel_rfl) (.inr opk1h40) (.inr opk1h45)
theorem opk1h46 : DT.leaf.check (okKD Try.prog opkKn opkDer [3, 4, 5, 6] opkET 100000 60 7 (opkArgs true)) opk1k38n = true := check_leaf (by kernel_rfl)
def opk1t38 : DT := .less 8 (1048577) opk1t39 .leaf
theorem opk1h38 : opk1t38.check (okKD Try.prog opkKn opkDer [3, 4, 5, 6] opkET 100000 60 7 (opkArgs true)) opk1k36n = true := check_less (Ky := opk1k38y) (Kn := opk1k38n) (i := ⟨1, 9223372036854775807, []⟩) (by kernel_rfl) (by kernel_rfl) (by kernel_rfl) (.inr opk1h39) (.inr opk1h46)
def opk1t36 : DT := .less 8 (1) .leaf opk1t38
theorem opk1h36 : opk1t36.check (okKD Try.prog opkKn opkDer [3, 4, 5, 6] opkET 100000 60 7 (opkArgs true)) opk1k35y = true := check_less (Ky := opk1k36y) (Kn := opk1k36n) (i := ⟨-9223372036854775808, 9223372036854775807, []⟩) (by kernel_rfl) (by kernel_rfl) (by kernel_rfl) (.inr opk1h37) (.inr opk1h38)
theorem opk1h47 : DT.leaf.check (okKD Try.prog opkKn opkDer [3, 4, 5, 6] opkET 100000 60 7 (opkArgs true)) opk1k35n = true := check_leaf (by kernel_rfl)
def opk1t35 : DT := .less 7 (4) opk1t36 .leaf
theorem opk1h35 : opk1t35.check (okKD Try.prog opkKn opkDer [3, 4, 5, 6] opkET 100000 60 7 (opkArgs true)) opk1k33n = true := check_less (Ky := opk1k35y) (Kn := opk1k35n) (i := ⟨0, 9223372036854775807, []⟩) (by kernel_rfl) (by kernel_rfl) (by kernel_rfl) (.inr opk1h36) (.inr opk1h47)
def opk1t33 : DT := .less 7 (0) .leaf opk1t35
theorem opk1h33 : opk1t33.check (okKD Try.prog opkKn opkDer [3, 4, 5, 6] opkET 100000 60 7 (opkArgs true)) opk1k32y = true := check_less (Ky := opk1k33y) (Kn := opk1k33n) (i := ⟨-9223372036854775808, 9223372036854775807, []⟩) (by kernel_rfl) (by kernel_rfl) (by kernel_rfl) (.inr opk1h34) (.inr opk1h35)
def opk1k48y : KB := opk1k32n.put 0 ⟨2, 2, [6, 1]⟩
def opk1k48n : KB := opk1k32n.put 0 ⟨-9223372036854775808, 9223372036854775807, [2, 6, 1]⟩
def opk1k49y : KB := opk1k48y.put 7 ⟨-9223372036854775808, -1, []⟩
def opk1k49n : KB := opk1k48y.put 7 ⟨0, 9223372036854775807, []⟩
theorem opk1h50 : DT.leaf.check (okKD Try.prog opkKn opkDer [3, 4, 5, 6] opkET 100000 60 7 (opkArgs true)) opk1k49y = true := check_leaf (by kernel_rfl)
def opk1k51y : KB := opk1k49n.put 7 ⟨0, 3, []⟩
def opk1k51n : KB := opk1k49n.put 7 ⟨4, 9223372036854775807, []⟩
def opk1k52y : KB := opk1k51y.put 8 ⟨-9223372036854775808, 0, []⟩
def opk1k52n : KB := opk1k51y.put 8 ⟨1, 9223372036854775807, []⟩
theorem opk1h53 : DT.leaf.check (okKD Try.prog opkKn opkDer [3, 4, 5, 6] opkET 100000 60 7 (opkArgs true)) opk1k52y = true := check_leaf (by kernel_rfl)
def opk1k54y : KB := opk1k52n.put 8 ⟨1, 1048576, []⟩
def opk1k54n : KB := opk1k52n.put 8 ⟨1048577, 9223372036854775807, []⟩
def opk1k55y : KB := opk1k54y.put 1005 ⟨0, 0, []⟩
def opk1k55n : KB := opk1k54y.put 1005 ⟨1, 2000, []⟩
theorem opk1h56 : DT.leaf.check (okKD Try.prog opkKn opkDer [3, 4, 5, 6] opkET 100000 60 7 (opkArgs true)) opk1k55y = true := check_leaf (by kernel_rfl)
def opk1k57y : KB := opk1k55n.put 1005 ⟨1, 16, []⟩
def opk1k57n : KB := opk1k55n.put 1005 ⟨17, 2000, []⟩
def opk1k58y : KB := opk1k57y.put 1006 ⟨0, 0, []⟩
def opk1k58n : KB := opk1k57y.put 1006 ⟨1, 2000, []⟩
theorem opk1h59 : DT.leaf.check (okKD Try.prog opkKn opkDer [3, 4, 5, 6] opkET 100000 60 7 (opkArgs true)) opk1k58y = true := check_leaf (by kernel_rfl)
def opk1k60y : KB := opk1k58n.put 1006 ⟨1, 16, []⟩
def opk1k60n : KB := opk1k58n.put 1006 ⟨17, 2000, []⟩
def opk1k61y : KB := opk1k60y.put 9 ⟨0, 0, []⟩
def opk1k61n : KB := opk1k60y.put 9 ⟨-9223372036854775808, 9223372036854775807, [0]⟩
theorem opk1h62 : DT.leaf.check (okKD Try.prog opkKn opkDer [3, 4, 5, 6] opkET 100000 60 7 (opkArgs true)) opk1k61y = true := check_leaf (by kernel_rfl)
theorem opk1h63 : DT.leaf.check (okKD Try.prog opkKn opkDer [3, 4, 5, 6] opkET 100000 60 7 (opkArgs true)) opk1k61n = true := check_leaf (by kernel_rfl)
def opk1t61 : DT := .same 9 (0) .leaf .leaf
theorem opk1h61 : opk1t61.check (okKD Try.prog opkKn opkDer [3, 4, 5, 6] opkET 100000 60 7 (opkArgs true)) opk1k60y = true := check_same (Ky := opk1k61y) (Kn := opk1k61n) (i := ⟨-9223372036854775808, 9223372036854775807, []⟩) (by kernel_rfl) (by kernel_rfl) (by kernel_rfl) (.inr opk1h62) (.inr opk1h63)
theorem opk1h64 : DT.leaf.check (okKD Try.prog opkKn opkDer [3, 4, 5, 6] opkET 100000 60 7 (opkArgs true)) opk1k60n = true := check_leaf (by kernel_rfl)
def opk1t60 : DT := .less 1006 (17) opk1t61 .leaf
theorem opk1h60 : opk1t60.check (okKD Try.prog opkKn opkDer [3, 4, 5, 6] opkET 100000 60 7 (opkArgs true)) opk1k58n = true := check_less (Ky := opk1k60y) (Kn := opk1k60n) (i := ⟨1, 2000, []⟩) (by kernel_rfl) (by kernel_rfl) (by kernel_rfl) (.inr opk1h61) (.inr opk1h64)
def opk1t58 : DT := .less 1006 (1) .leaf opk1t60
theorem opk1h58 : opk1t58.check (okKD Try.prog opkKn opkDer [3, 4, 5, 6] opkET 100000 60 7 (opkArgs true)) opk1k57y = true := check_less (Ky := opk1k58y) (Kn := opk1k58n) (i := ⟨0, 2000, []⟩) (by kernel_rfl) (by kernel_rfl) (by kernel_rfl) (.inr opk1h59) (.inr opk1h60)
theorem opk1h65 : DT.leaf.check (okKD Try.prog opkKn opkDer [3, 4, 5, 6] opkET 100000 60 7 (opkArgs true)) opk1k57n = true := check_leaf (by kernel_rfl)
def opk1t57 : DT := .less 1005 (17) opk1t58 .leaf
theorem opk1h57 : opk1t57.check (okKD Try.prog opkKn opkDer [3, 4, 5, 6] opkET 100000 60 7 (opkArgs true)) opk1k55n = true := check_less (Ky := opk1k57y) (Kn := opk1k57n) (i := ⟨1, 2000, []⟩) (by kernel_rfl) (by kernel_rfl) (by kernel_rfl) (.inr opk1h58) (.inr opk1h65)
def opk1t55 : DT := .less 1005 (1) .leaf opk1t57
theorem opk1h55 : opk1t55.check (okKD Try.prog opkKn opkDer [3, 4, 5, 6] opkET 100000 60 7 (opkArgs true)) opk1k54y = true := check_less (Ky := opk1k55y) (Kn := opk1k55n) (i := ⟨0, 2000, []⟩) (by kernel_rfl) (by kernel_rfl) (by kernel_rfl) (.inr opk1h56) (.inr opk1h57)
theorem opk1h66 : DT.leaf.check (okKD Try.prog opkKn opkDer [3, 4, 5, 6] opkET 100000 60 7 (opkArgs true)) opk1k54n = true := check_leaf (by kernel_rfl)
def opk1t54 : DT := .less 8 (1048577) opk1t55 .leaf
theorem opk1h54 : opk1t54.check (okKD Try.prog opkKn opkDer [3, 4, 5, 6] opkET 100000 60 7 (opkArgs true)) opk1k52n = true := check_less (Ky := opk1k54y) (Kn := opk1k54n) (i := ⟨1, 9223372036854775807, []⟩) (by kernel_rfl) (by kernel_rfl) (by kernel_rfl) (.inr opk1h55) (.inr opk1h66)
def opk1t52 : DT := .less 8 (1) .leaf opk1t54
theorem opk1h52 : opk1t52.check (okKD Try.prog opkKn opkDer [3, 4, 5, 6] opkET 100000 60 7 (opkArgs true)) opk1k51y = true := check_less (Ky := opk1k52y) (Kn := opk1k52n) (i := ⟨-9223372036854775808, 9223372036854775807, []⟩) (by kernel_rfl) (by kernel_rfl) (by kernel_rfl) (.inr opk1h53) (.inr opk1h54)
theorem opk1h67 : DT.leaf.check (okKD Try.prog opkKn opkDer [3, 4, 5, 6] opkET 100000 60 7 (opkArgs true)) opk1k51n = true := check_leaf (by kernel_rfl)
def opk1t51 : DT := .less 7 (4) opk1t52 .leaf
theorem opk1h51 : opk1t51.check (okKD Try.prog opkKn opkDer [3, 4, 5, 6] opkET 100000 60 7 (opkArgs true)) opk1k49n = true := check_less (Ky := opk1k51y) (Kn := opk1k51n) (i := ⟨0, 9223372036854775807, []⟩) (by kernel_rfl) (by kernel_rfl) (by kernel_rfl) (.inr opk1h52) (.inr opk1h67)
def opk1t49 : DT := .less 7 (0) .leaf opk1t51
theorem opk1h49 : opk1t49.check (okKD Try.prog opkKn opkDer [3, 4, 5, 6] opkET 100000 60 7 (opkArgs true)) opk1k48y = true := check_less (Ky := opk1k49y) (Kn := opk1k49n) (i := ⟨-9223372036854775808, 9223372036854775807, []⟩) (by kernel_rfl) (by kernel_rfl) (by kernel_rfl) (.inr opk1h50) (.inr opk1h51)
def opk1k68y : KB := opk1k48n.put 0 ⟨3, 3, [2, 6, 1]⟩
def opk1k68n : KB := opk1k48n.put 0 ⟨-9223372036854775808, 9223372036854775807, [3, 2, 6, 1]⟩
def opk1k69y : KB := opk1k68y.put 7 ⟨-9223372036854775808, 0, []⟩
def opk1k69n : KB := opk1k68y.put 7 ⟨1, 9223372036854775807, []⟩
theorem opk1h70 : DT.leaf.check (okKD Try.prog opkKn opkDer [3, 4, 5, 6] opkET 100000 60 7 (opkArgs true)) opk1k69y = true := check_leaf (by kernel_rfl)
def opk1k71y : KB := opk1k69n.put 7 ⟨1, 3, []⟩
def opk1k71n : KB := opk1k69n.put 7 ⟨4, 9223372036854775807, []⟩
def opk1k72y : KB := opk1k71y.put 8 ⟨-9223372036854775808, 0, []⟩
def opk1k72n : KB := opk1k71y.put 8 ⟨1, 9223372036854775807, []⟩
theorem opk1h73 : DT.leaf.check (okKD Try.prog opkKn opkDer [3, 4, 5, 6] opkET 100000 60 7 (opkArgs true)) opk1k72y = true := check_leaf (by kernel_rfl)
def opk1k74y : KB := opk1k72n.put 8 ⟨1, 1048576, []⟩
def opk1k74n : KB := opk1k72n.put 8 ⟨1048577, 9223372036854775807, []⟩
def opk1k75y : KB := opk1k74y.put 9 ⟨-9223372036854775808, 0, []⟩
def opk1k75n : KB := opk1k74y.put 9 ⟨1, 9223372036854775807, []⟩
theorem opk1h76 : DT.leaf.check (okKD Try.prog opkKn opkDer [3, 4, 5, 6] opkET 100000 60 7 (opkArgs true)) opk1k75y = true := check_leaf (by kernel_rfl)
def opk1k77y : KB := opk1k75n.put 9 ⟨1, 1024, []⟩
def opk1k77n : KB := opk1k75n.put 9 ⟨1025, 9223372036854775807, []⟩
def opk1k78y : KB := opk1k77y.put 1005 ⟨0, 0, []⟩
def opk1k78n : KB := opk1k77y.put 1005 ⟨1, 2000, []⟩
def opk1k79y : KB := opk1k78y.put 1006 ⟨0, 0, []⟩
def opk1k79n : KB := opk1k78y.put 1006 ⟨1, 2000, []⟩
theorem opk1h80 : DT.leaf.check (okKD Try.prog opkKn opkDer [3, 4, 5, 6] opkET 100000 60 7 (opkArgs true)) opk1k79y = true := check_leaf (by kernel_rfl)
theorem opk1h81 : DT.leaf.check (okKD Try.prog opkKn opkDer [3, 4, 5, 6] opkET 100000 60 7 (opkArgs true)) opk1k79n = true := check_leaf (by kernel_rfl)
def opk1t79 : DT := .same 1006 (0) .leaf .leaf
theorem opk1h79 : opk1t79.check (okKD Try.prog opkKn opkDer [3, 4, 5, 6] opkET 100000 60 7 (opkArgs true)) opk1k78y = true := check_same (Ky := opk1k79y) (Kn := opk1k79n) (i := ⟨0, 2000, []⟩) (by kernel_rfl) (by kernel_rfl) (by kernel_rfl) (.inr opk1h80) (.inr opk1h81)
theorem opk1h82 : DT.leaf.check (okKD Try.prog opkKn opkDer [3, 4, 5, 6] opkET 100000 60 7 (opkArgs true)) opk1k78n = true := check_leaf (by kernel_rfl)
def opk1t78 : DT := .same 1005 (0) opk1t79 .leaf
theorem opk1h78 : opk1t78.check (okKD Try.prog opkKn opkDer [3, 4, 5, 6] opkET 100000 60 7 (opkArgs true)) opk1k77y = true := check_same (Ky := opk1k78y) (Kn := opk1k78n) (i := ⟨0, 2000, []⟩) (by kernel_rfl) (by kernel_rfl) (by kernel_rfl) (.inr opk1h79) (.inr opk1h82)
theorem opk1h83 : DT.leaf.check (okKD Try.prog opkKn opkDer [3, 4, 5, 6] opkET 100000 60 7 (opkArgs true)) opk1k77n = true := check_leaf (by kernel_rfl)
def opk1t77 : DT := .less 9 (1025) opk1t78 .leaf
theorem opk1h77 : opk1t77.check (okKD Try.prog opkKn opkDer [3, 4, 5, 6] opkET 100000 60 7 (opkArgs true)) opk1k75n = true := check_less (Ky := opk1k77y) (Kn := opk1k77n) (i := ⟨1, 9223372036854775807, []⟩) (by kernel_rfl) (by kernel_rfl) (by kernel_rfl) (.inr opk1h78) (.inr opk1h83)
def opk1t75 : DT := .less 9 (1) .leaf opk1t77
theorem opk1h75 : opk1t75.check (okKD Try.prog opkKn opkDer [3, 4, 5, 6] opkET 100000 60 7 (opkArgs true)) opk1k74y = true := check_less (Ky := opk1k75y) (Kn := opk1k75n) (i := ⟨-9223372036854775808, 9223372036854775807, []⟩) (by kernel_rfl) (by kernel_rfl) (by kernel_rfl) (.inr opk1h76) (.inr opk1h77)
theorem opk1h84 : DT.leaf.check (okKD Try.prog opkKn opkDer [3, 4, 5, 6] opkET 100000 60 7 (opkArgs true)) opk1k74n = true := check_leaf (by kernel_rfl)
def opk1t74 : DT := .less 8 (1048577) opk1t75 .leaf
theorem opk1h74 : opk1t74.check (okKD Try.prog opkKn opkDer [3, 4, 5, 6] opkET 100000 60 7 (opkArgs true)) opk1k72n = true := check_less (Ky := opk1k74y) (Kn := opk1k74n) (i := ⟨1, 9223372036854775807, []⟩) (by kernel_rfl) (by kernel_rfl) (by kernel_rfl) (.inr opk1h75) (.inr opk1h84)
def opk1t72 : DT := .less 8 (1) .leaf opk1t74
theorem opk1h72 : opk1t72.check (okKD Try.prog opkKn opkDer [3, 4, 5, 6] opkET 100000 60 7 (opkArgs true)) opk1k71y = true := check_less (Ky := opk1k72y) (Kn := opk1k72n) (i := ⟨-9223372036854775808, 9223372036854775807, []⟩) (by kernel_rfl) (by kernel_rfl) (by kernel_rfl) (.inr opk1h73) (.inr opk1h74)
theorem opk1h85 : DT.leaf.check (okKD Try.prog opkKn opkDer [3, 4, 5, 6] opkET 100000 60 7 (opkArgs true)) opk1k71n = true := check_leaf (by kernel_rfl)
def opk1t71 : DT := .less 7 (4) opk1t72 .leaf
theorem opk1h71 : opk1t71.check (okKD Try.prog opkKn opkDer [3, 4, 5, 6] opkET 100000 60 7 (opkArgs true)) opk1k69n = true := check_less (Ky := opk1k71y) (Kn := opk1k71n) (i := ⟨1, 9223372036854775807, []⟩) (by kernel_rfl) (by kernel_rfl) (by kernel_rfl) (.inr opk1h72) (.inr opk1h85)
def opk1t69 : DT := .less 7 (1) .leaf opk1t71
theorem opk1h69 : opk1t69.check (okKD Try.prog opkKn opkDer [3, 4, 5, 6] opkET 100000 60 7 (opkArgs true)) opk1k68y = true := check_less (Ky := opk1k69y) (Kn := opk1k69n) (i := ⟨-9223372036854775808, 9223372036854775807, []⟩) (by kernel_rfl) (by kernel_rfl) (by kernel_rfl) (.inr opk1h70) (.inr opk1h71)
def opk1k86y : KB := opk1k68n.put 0 ⟨4, 4, [3, 2, 6, 1]⟩
def opk1k86n : KB := opk1k68n.put 0 ⟨-9223372036854775808, 9223372036854775807, [4, 3, 2, 6, 1]⟩
def opk1k87y : KB := opk1k86y.put 1005 ⟨0, 0, []⟩
def opk1k87n : KB := opk1k86y.put 1005 ⟨1, 2000, []⟩
def opk1k88y : KB := opk1k87y.put 1006 ⟨0, 0, []⟩
def opk1k88n : KB := opk1k87y.put 1006 ⟨1, 2000, []⟩
def opk1k89y : KB := opk1k88y.put 7 ⟨0, 0, []⟩
def opk1k89n : KB := opk1k88y.put 7 ⟨-9223372036854775808, 9223372036854775807, [0]⟩
def opk1k90y : KB := opk1k89y.put 8 ⟨0, 0, []⟩
def opk1k90n : KB := opk1k89y.put 8 ⟨-9223372036854775808, 9223372036854775807, [0]⟩
def opk1k91y : KB := opk1k90y.put 9 ⟨0, 0, []⟩
def opk1k91n : KB := opk1k90y.put 9 ⟨-9223372036854775808, 9223372036854775807, [0]⟩
theorem opk1h92 : DT.leaf.check (okKD Try.prog opkKn opkDer [3, 4, 5, 6] opkET 100000 60 7 (opkArgs true)) opk1k91y = true := check_leaf (by kernel_rfl)
theorem opk1h93 : DT.leaf.check (okKD Try.prog opkKn opkDer [3, 4, 5, 6] opkET 100000 60 7 (opkArgs true)) opk1k91n = true := check_leaf (by kernel_rfl)
def opk1t91 : DT := .same 9 (0) .leaf .leaf
theorem opk1h91 : opk1t91.check (okKD Try.prog opkKn opkDer [3, 4, 5, 6] opkET 100000 60 7 (opkArgs true)) opk1k90y = true := check_same (Ky := opk1k91y) (Kn := opk1k91n) (i := ⟨-9223372036854775808, 9223372036854775807, []⟩) (by kernel_rfl) (by kernel_rfl) (by kernel_rfl) (.inr opk1h92) (.inr opk1h93)
theorem opk1h94 : DT.leaf.check (okKD Try.prog opkKn opkDer [3, 4, 5, 6] opkET 100000 60 7 (opkArgs true)) opk1k90n = true := check_leaf (by kernel_rfl)
def opk1t90 : DT := .same 8 (0) opk1t91 .leaf
theorem opk1h90 : opk1t90.check (okKD Try.prog opkKn opkDer [3, 4, 5, 6] opkET 100000 60 7 (opkArgs true)) opk1k89y = true := check_same (Ky := opk1k90y) (Kn := opk1k90n) (i := ⟨-9223372036854775808, 9223372036854775807, []⟩) (by kernel_rfl) (by kernel_rfl) (by kernel_rfl) (.inr opk1h91) (.inr opk1h94)
theorem opk1h95 : DT.leaf.check (okKD Try.prog opkKn opkDer [3, 4, 5, 6] opkET 100000 60 7 (opkArgs true)) opk1k89n = true := check_leaf (by kernel_rfl)
def opk1t89 : DT := .same 7 (0) opk1t90 .leaf
theorem opk1h89 : opk1t89.check (okKD Try.prog opkKn opkDer [3, 4, 5, 6] opkET 100000 60 7 (opkArgs true)) opk1k88y = true := check_same (Ky := opk1k89y) (Kn := opk1k89n) (i := ⟨-9223372036854775808, 9223372036854775807, []⟩) (by kernel_rfl) (by kernel_rfl) (by kernel_rfl) (.inr opk1h90) (.inr opk1h95)
theorem opk1h96 : DT.leaf.check (okKD Try.prog opkKn opkDer [3, 4, 5, 6] opkET 100000 60 7 (opkArgs true)) opk1k88n = true := check_leaf (by kernel_rfl)
def opk1t88 : DT := .same 1006 (0) opk1t89 .leaf
theorem opk1h88 : opk1t88.check (okKD Try.prog opkKn opkDer [3, 4, 5, 6] opkET 100000 60 7 (opkArgs true)) opk1k87y = true := check_same (Ky := opk1k88y) (Kn := opk1k88n) (i := ⟨0, 2000, []⟩) (by kernel_rfl) (by kernel_rfl) (by kernel_rfl) (.inr opk1h89) (.inr opk1h96)
theorem opk1h97 : DT.leaf.check (okKD Try.prog opkKn opkDer [3, 4, 5, 6] opkET 100000 60 7 (opkArgs true)) opk1k87n = true := check_leaf (by kernel_rfl)
def opk1t87 : DT := .same 1005 (0) opk1t88 .leaf
theorem opk1h87 : opk1t87.check (okKD Try.prog opkKn opkDer [3, 4, 5, 6] opkET 100000 60 7 (opkArgs true)) opk1k86y = true := check_same (Ky := opk1k87y) (Kn := opk1k87n) (i := ⟨0, 2000, []⟩) (by kernel_rfl) (by kernel_rfl) (by kernel_rfl) (.inr opk1h88) (.inr opk1h97)
def opk1k98y : KB := opk1k86n.put 0 ⟨5, 5, [4, 3, 2, 6, 1]⟩
def opk1k98n : KB := opk1k86n.put 0 ⟨-9223372036854775808, 9223372036854775807, [5, 4, 3, 2, 6, 1]⟩
def opk1k99y : KB := opk1k98y.put 1005 ⟨0, 0, []⟩
def opk1k99n : KB := opk1k98y.put 1005 ⟨1, 2000, []⟩
def opk1k100y : KB := opk1k99y.put 1006 ⟨0, 0, []⟩
def opk1k100n : KB := opk1k99y.put 1006 ⟨1, 2000, []⟩
def opk1k101y : KB := opk1k100y.put 7 ⟨0, 0, []⟩
def opk1k101n : KB := opk1k100y.put 7 ⟨-9223372036854775808, 9223372036854775807, [0]⟩
def opk1k102y : KB := opk1k101y.put 8 ⟨0, 0, []⟩
def opk1k102n : KB := opk1k101y.put 8 ⟨-9223372036854775808, 9223372036854775807, [0]⟩
def opk1k103y : KB := opk1k102y.put 9 ⟨0, 0, []⟩
def opk1k103n : KB := opk1k102y.put 9 ⟨-9223372036854775808, 9223372036854775807, [0]⟩
theorem opk1h104 : DT.leaf.check (okKD Try.prog opkKn opkDer [3, 4, 5, 6] opkET 100000 60 7 (opkArgs true)) opk1k103y = true := check_leaf (by kernel_rfl)
theorem opk1h105 : DT.leaf.check (okKD Try.prog opkKn opkDer [3, 4, 5, 6] opkET 100000 60 7 (opkArgs true)) opk1k103n = true := check_leaf (by kernel_rfl)
def opk1t103 : DT := .same 9 (0) .leaf .leaf
theorem opk1h103 : opk1t103.check (okKD Try.prog opkKn opkDer [3, 4, 5, 6] opkET 100000 60 7 (opkArgs true)) opk1k102y = true := check_same (Ky := opk1k103y) (Kn := opk1k103n) (i := ⟨-9223372036854775808, 9223372036854775807, []⟩) (by kernel_rfl) (by kernel_rfl) (by kernel_rfl) (.inr opk1h104) (.inr opk1h105)
theorem opk1h106 : DT.leaf.check (okKD Try.prog opkKn opkDer [3, 4, 5, 6] opkET 100000 60 7 (opkArgs true)) opk1k102n = true := check_leaf (by kernel_rfl)
def opk1t102 : DT := .same 8 (0) opk1t103 .leaf
theorem opk1h102 : opk1t102.check (okKD Try.prog opkKn opkDer [3, 4, 5, 6] opkET 100000 60 7 (opkArgs true)) opk1k101y = true := check_same (Ky := opk1k102y) (Kn := opk1k102n) (i := ⟨-9223372036854775808, 9223372036854775807, []⟩) (by kernel_rfl) (by kernel_rfl) (by kernel_rfl) (.inr opk1h103) (.inr opk1h106)
theorem opk1h107 : DT.leaf.check (okKD Try.prog opkKn opkDer [3, 4, 5, 6] opkET 100000 60 7 (opkArgs true)) opk1k101n = true := check_leaf (by kernel_rfl)
def opk1t101 : DT := .same 7 (0) opk1t102 .leaf
theorem opk1h101 : opk1t101.check (okKD Try.prog opkKn opkDer [3, 4, 5, 6] opkET 100000 60 7 (opkArgs true)) opk1k100y = true := check_same (Ky := opk1k101y) (Kn := opk1k101n) (i := ⟨-9223372036854775808, 9223372036854775807, []⟩) (by kernel_rfl) (by kernel_rfl) (by kernel_rfl) (.inr opk1h102) (.inr opk1h107)
theorem opk1h108 : DT.leaf.check (okKD Try.prog opkKn opkDer [3, 4, 5, 6] opkET 100000 60 7 (opkArgs true)) opk1k100n = true := check_leaf (by kernel_rfl)
def opk1t100 : DT := .same 1006 (0) opk1t101 .leaf
theorem opk1h100 : opk1t100.check (okKD Try.prog opkKn opkDer [3, 4, 5, 6] opkET 100000 60 7 (opkArgs true)) opk1k99y = true := check_same (Ky := opk1k100y) (Kn := opk1k100n) (i := ⟨0, 2000, []⟩) (by kernel_rfl) (by kernel_rfl) (by kernel_rfl) (.inr opk1h101) (.inr opk1h108)
theorem opk1h109 : DT.leaf.check (okKD Try.prog opkKn opkDer [3, 4, 5, 6] opkET 100000 60 7 (opkArgs true)) opk1k99n = true := check_leaf (by kernel_rfl)
def opk1t99 : DT := .same 1005 (0) opk1t100 .leaf
theorem opk1h99 : opk1t99.check (okKD Try.prog opkKn opkDer [3, 4, 5, 6] opkET 100000 60 7 (opkArgs true)) opk1k98y = true := check_same (Ky := opk1k99y) (Kn := opk1k99n) (i := ⟨0, 2000, []⟩) (by kernel_rfl) (by kernel_rfl) (by kernel_rfl) (.inr opk1h100) (.inr opk1h109)
def opk1k110y : KB := opk1k98n.put 0 ⟨7, 7, [5, 4, 3, 2, 6, 1]⟩
def opk1k110n : KB := opk1k98n.put 0 ⟨-9223372036854775808, 9223372036854775807, [7, 5, 4, 3, 2, 6, 1]⟩
def opk1k111y : KB := opk1k110y.put 1005 ⟨0, 0, []⟩
def opk1k111n : KB := opk1k110y.put 1005 ⟨1, 2000, []⟩
def opk1k112y : KB := opk1k111y.put 1006 ⟨0, 0, []⟩
def opk1k112n : KB := opk1k111y.put 1006 ⟨1, 2000, []⟩
def opk1k113y : KB := opk1k112y.put 7 ⟨0, 0, []⟩
def opk1k113n : KB := opk1k112y.put 7 ⟨-9223372036854775808, 9223372036854775807, [0]⟩
def opk1k114y : KB := opk1k113y.put 8 ⟨0, 0, []⟩
def opk1k114n : KB := opk1k113y.put 8 ⟨-9223372036854775808, 9223372036854775807, [0]⟩
def opk1k115y : KB := opk1k114y.put 9 ⟨0, 0, []⟩
def opk1k115n : KB := opk1k114y.put 9 ⟨-9223372036854775808, 9223372036854775807, [0]⟩
theorem opk1h116 : DT.leaf.check (okKD Try.prog opkKn opkDer [3, 4, 5, 6] opkET 100000 60 7 (opkArgs true)) opk1k115y = true := check_leaf (by kernel_rfl)
theorem opk1h117 : DT.leaf.check (okKD Try.prog opkKn opkDer [3, 4, 5, 6] opkET 100000 60 7 (opkArgs true)) opk1k115n = true := check_leaf (by kernel_rfl)
def opk1t115 : DT := .same 9 (0) .leaf .leaf
theorem opk1h115 : opk1t115.check (okKD Try.prog opkKn opkDer [3, 4, 5, 6] opkET 100000 60 7 (opkArgs true)) opk1k114y = true := check_same (Ky := opk1k115y) (Kn := opk1k115n) (i := ⟨-9223372036854775808, 9223372036854775807, []⟩) (by kernel_rfl) (by kernel_rfl) (by kernel_rfl) (.inr opk1h116) (.inr opk1h117)
theorem opk1h118 : DT.leaf.check (okKD Try.prog opkKn opkDer [3, 4, 5, 6] opkET 100000 60 7 (opkArgs true)) opk1k114n = true := check_leaf (by kernel_rfl)
def opk1t114 : DT := .same 8 (0) opk1t115 .leaf
theorem opk1h114 : opk1t114.check (okKD Try.prog opkKn opkDer [3, 4, 5, 6] opkET 100000 60 7 (opkArgs true)) opk1k113y = true := check_same (Ky := opk1k114y) (Kn := opk1k114n) (i := ⟨-9223372036854775808, 9223372036854775807, []⟩) (by kernel_rfl) (by kernel_rfl) (by kernel_rfl) (.inr opk1h115) (.inr opk1h118)
theorem opk1h119 : DT.leaf.check (okKD Try.prog opkKn opkDer [3, 4, 5, 6] opkET 100000 60 7 (opkArgs true)) opk1k113n = true := check_leaf (by kernel_rfl)
def opk1t113 : DT := .same 7 (0) opk1t114 .leaf
theorem opk1h113 : opk1t113.check (okKD Try.prog opkKn opkDer [3, 4, 5, 6] opkET 100000 60 7 (opkArgs true)) opk1k112y = true := check_same (Ky := opk1k113y) (Kn := opk1k113n) (i := ⟨-9223372036854775808, 9223372036854775807, []⟩) (by kernel_rfl) (by kernel_rfl) (by kernel_rfl) (.inr opk1h114) (.inr opk1h119)
theorem opk1h120 : DT.leaf.check (okKD Try.prog opkKn opkDer [3, 4, 5, 6] opkET 100000 60 7 (opkArgs true)) opk1k112n = true := check_leaf (by kernel_rfl)
def opk1t112 : DT := .same 1006 (0) opk1t113 .leaf
theorem opk1h112 : opk1t112.check (okKD Try.prog opkKn opkDer [3, 4, 5, 6] opkET 100000 60 7 (opkArgs true)) opk1k111y = true := check_same (Ky := opk1k112y) (Kn := opk1k112n) (i := ⟨0, 2000, []⟩) (by kernel_rfl) (by kernel_rfl) (by kernel_rfl) (.inr opk1h113) (.inr opk1h120)
theorem opk1h121 : DT.leaf.check (okKD Try.prog opkKn opkDer [3, 4, 5, 6] opkET 100000 60 7 (opkArgs true)) opk1k111n = true := check_leaf (by kernel_rfl)
def opk1t111 : DT := .same 1005 (0) opk1t112 .leaf
theorem opk1h111 : opk1t111.check (okKD Try.prog opkKn opkDer [3, 4, 5, 6] opkET 100000 60 7 (opkArgs true)) opk1k110y = true := check_same (Ky := opk1k111y) (Kn := opk1k111n) (i := ⟨0, 2000, []⟩) (by kernel_rfl) (by kernel_rfl) (by kernel_rfl) (.inr opk1h112) (.inr opk1h121)
theorem opk1h122 : DT.leaf.check (okKD Try.prog opkKn opkDer [3, 4, 5, 6] opkET 100000 60 7 (opkArgs true)) opk1k110n = true := check_leaf (by kernel_rfl)
def opk1t110 : DT := .same 0 (7) opk1t111 .leaf
theorem opk1h110 : opk1t110.check (okKD Try.prog opkKn opkDer [3, 4, 5, 6] opkET 100000 60 7 (opkArgs true)) opk1k98n = true := check_same (Ky := opk1k110y) (Kn := opk1k110n) (i := ⟨-9223372036854775808, 9223372036854775807, [5, 4, 3, 2, 6, 1]⟩) (by kernel_rfl) (by kernel_rfl) (by kernel_rfl) (.inr opk1h111) (.inr opk1h122)
def opk1t98 : DT := .same 0 (5) opk1t99 opk1t110
theorem opk1h98 : opk1t98.check (okKD Try.prog opkKn opkDer [3, 4, 5, 6] opkET 100000 60 7 (opkArgs true)) opk1k86n = true := check_same (Ky := opk1k98y) (Kn := opk1k98n) (i := ⟨-9223372036854775808, 9223372036854775807, [4, 3, 2, 6, 1]⟩) (by kernel_rfl) (by kernel_rfl) (by kernel_rfl) (.inr opk1h99) (.inr opk1h110)
def opk1t86 : DT := .same 0 (4) opk1t87 opk1t98
theorem opk1h86 : opk1t86.check (okKD Try.prog opkKn opkDer [3, 4, 5, 6] opkET 100000 60 7 (opkArgs true)) opk1k68n = true := check_same (Ky := opk1k86y) (Kn := opk1k86n) (i := ⟨-9223372036854775808, 9223372036854775807, [3, 2, 6, 1]⟩) (by kernel_rfl) (by kernel_rfl) (by kernel_rfl) (.inr opk1h87) (.inr opk1h98)
def opk1t68 : DT := .same 0 (3) opk1t69 opk1t86
theorem opk1h68 : opk1t68.check (okKD Try.prog opkKn opkDer [3, 4, 5, 6] opkET 100000 60 7 (opkArgs true)) opk1k48n = true := check_same (Ky := opk1k68y) (Kn := opk1k68n) (i := ⟨-9223372036854775808, 9223372036854775807, [2, 6, 1]⟩) (by kernel_rfl) (by kernel_rfl) (by kernel_rfl) (.inr opk1h69) (.inr opk1h86)
def opk1t48 : DT := .same 0 (2) opk1t49 opk1t68
theorem opk1h48 : opk1t48.check (okKD Try.prog opkKn opkDer [3, 4, 5, 6] opkET 100000 60 7 (opkArgs true)) opk1k32n = true := check_same (Ky := opk1k48y) (Kn := opk1k48n) (i := ⟨-9223372036854775808, 9223372036854775807, [6, 1]⟩) (by kernel_rfl) (by kernel_rfl) (by kernel_rfl) (.inr opk1h49) (.inr opk1h68)
def opk1t32 : DT := .same 0 (6) opk1t33 opk1t48
theorem opk1h32 : opk1t32.check (okKD Try.prog opkKn opkDer [3, 4, 5, 6] opkET 100000 60 7 (opkArgs true)) opk1k16n = true := check_same (Ky := opk1k32y) (Kn := opk1k32n) (i := ⟨-9223372036854775808, 9223372036854775807, [1]⟩) (by kernel_rfl) (by kernel_rfl) (by kernel_rfl) (.inr opk1h33) (.inr opk1h48)
def opk1t16 : DT := .same 0 (1) opk1t17 opk1t32
theorem opk1h16 : opk1t16.check (okKD Try.prog opkKn opkDer [3, 4, 5, 6] opkET 100000 60 7 (opkArgs true)) opk1k15y = true := check_same (Ky := opk1k16y) (Kn := opk1k16n) (i := ⟨-9223372036854775808, 9223372036854775807, []⟩) (by kernel_rfl) (by kernel_rfl) (by kernel_rfl) (.inr opk1h17) (.inr opk1h32)
theorem opk1h123 : DT.leaf.check (okKD Try.prog opkKn opkDer [3, 4, 5, 6] opkET 100000 60 7 (opkArgs true)) opk1k15n = true := check_leaf (by kernel_rfl)
def opk1t15 : DT := .less 1004 (17) opk1t16 .leaf
theorem opk1h15 : opk1t15.check (okKD Try.prog opkKn opkDer [3, 4, 5, 6] opkET 100000 60 7 (opkArgs true)) opk1k13n = true := check_less (Ky := opk1k15y) (Kn := opk1k15n) (i := ⟨1, 2000, []⟩) (by kernel_rfl) (by kernel_rfl) (by kernel_rfl) (.inr opk1h16) (.inr opk1h123)
def opk1t13 : DT := .less 1004 (1) .leaf opk1t15
theorem opk1h13 : opk1t13.check (okKD Try.prog opkKn opkDer [3, 4, 5, 6] opkET 100000 60 7 (opkArgs true)) opk1k12y = true := check_less (Ky := opk1k13y) (Kn := opk1k13n) (i := ⟨0, 2000, []⟩) (by kernel_rfl) (by kernel_rfl) (by kernel_rfl) (.inr opk1h14) (.inr opk1h15)
theorem opk1h124 : DT.leaf.check (okKD Try.prog opkKn opkDer [3, 4, 5, 6] opkET 100000 60 7 (opkArgs true)) opk1k12n = true := check_leaf (by kernel_rfl)
def opk1t12 : DT := .less 1003 (17) opk1t13 .leaf
theorem opk1h12 : opk1t12.check (okKD Try.prog opkKn opkDer [3, 4, 5, 6] opkET 100000 60 7 (opkArgs true)) opk1k10n = true := check_less (Ky := opk1k12y) (Kn := opk1k12n) (i := ⟨1, 2000, []⟩) (by kernel_rfl) (by kernel_rfl) (by kernel_rfl) (.inr opk1h13) (.inr opk1h124)
def opk1t10 : DT := .less 1003 (1) .leaf opk1t12
theorem opk1h10 : opk1t10.check (okKD Try.prog opkKn opkDer [3, 4, 5, 6] opkET 100000 60 7 (opkArgs true)) opk1k9y = true := check_less (Ky := opk1k10y) (Kn := opk1k10n) (i := ⟨0, 2000, []⟩) (by kernel_rfl) (by kernel_rfl) (by kernel_rfl) (.inr opk1h11) (.inr opk1h12)
theorem opk1h125 : DT.leaf.check (okKD Try.prog opkKn opkDer [3, 4, 5, 6] opkET 100000 60 7 (opkArgs true)) opk1k9n = true := check_leaf (by kernel_rfl)
def opk1t9 : DT := .less 2 (1099511627777) opk1t10 .leaf
theorem opk1h9 : opk1t9.check (okKD Try.prog opkKn opkDer [3, 4, 5, 6] opkET 100000 60 7 (opkArgs true)) opk1k7n = true := check_less (Ky := opk1k9y) (Kn := opk1k9n) (i := ⟨1, 9223372036854775807, []⟩) (by kernel_rfl) (by kernel_rfl) (by kernel_rfl) (.inr opk1h10) (.inr opk1h125)
def opk1t7 : DT := .less 2 (1) .leaf opk1t9
theorem opk1h7 : opk1t7.check (okKD Try.prog opkKn opkDer [3, 4, 5, 6] opkET 100000 60 7 (opkArgs true)) opk1k6y = true := check_less (Ky := opk1k7y) (Kn := opk1k7n) (i := ⟨-9223372036854775808, 9223372036854775807, []⟩) (by kernel_rfl) (by kernel_rfl) (by kernel_rfl) (.inr opk1h8) (.inr opk1h9)
theorem opk1h126 : DT.leaf.check (okKD Try.prog opkKn opkDer [3, 4, 5, 6] opkET 100000 60 7 (opkArgs true)) opk1k6n = true := check_leaf (by kernel_rfl)
def opk1t6 : DT := .less 1 (1048577) opk1t7 .leaf
theorem opk1h6 : opk1t6.check (okKD Try.prog opkKn opkDer [3, 4, 5, 6] opkET 100000 60 7 (opkArgs true)) opk1k4n = true := check_less (Ky := opk1k6y) (Kn := opk1k6n) (i := ⟨1, 9223372036854775807, []⟩) (by kernel_rfl) (by kernel_rfl) (by kernel_rfl) (.inr opk1h7) (.inr opk1h126)
def opk1t4 : DT := .less 1 (1) .leaf opk1t6
theorem opk1h4 : opk1t4.check (okKD Try.prog opkKn opkDer [3, 4, 5, 6] opkET 100000 60 7 (opkArgs true)) opk1k3y = true := check_less (Ky := opk1k4y) (Kn := opk1k4n) (i := ⟨-9223372036854775808, 9223372036854775807, []⟩) (by kernel_rfl) (by kernel_rfl) (by kernel_rfl) (.inr opk1h5) (.inr opk1h6)
theorem opk1h127 : DT.leaf.check (okKD Try.prog opkKn opkDer [3, 4, 5, 6] opkET 100000 60 7 (opkArgs true)) opk1k3n = true := check_leaf (by kernel_rfl)
def opk1t3 : DT := .less 1006 (2001) opk1t4 .leaf
theorem opk1h3 : opk1t3.check (okKD Try.prog opkKn opkDer [3, 4, 5, 6] opkET 100000 60 7 (opkArgs true)) opk1k2y = true := check_less (Ky := opk1k3y) (Kn := opk1k3n) (i := ⟨0, 9223372036854775807, []⟩) (by kernel_rfl) (by kernel_rfl) (by kernel_rfl) (.inr opk1h4) (.inr opk1h127)
theorem opk1h128 : DT.leaf.check (okKD Try.prog opkKn opkDer [3, 4, 5, 6] opkET 100000 60 7 (opkArgs true)) opk1k2n = true := check_leaf (by kernel_rfl)
def opk1t2 : DT := .less 1005 (2001) opk1t3 .leaf
theorem opk1h2 : opk1t2.check (okKD Try.prog opkKn opkDer [3, 4, 5, 6] opkET 100000 60 7 (opkArgs true)) opk1k1y = true := check_less (Ky := opk1k2y) (Kn := opk1k2n) (i := ⟨0, 9223372036854775807, []⟩) (by kernel_rfl) (by kernel_rfl) (by kernel_rfl) (.inr opk1h3) (.inr opk1h128)
theorem opk1h129 : DT.leaf.check (okKD Try.prog opkKn opkDer [3, 4, 5, 6] opkET 100000 60 7 (opkArgs true)) opk1k1n = true := check_leaf (by kernel_rfl)
def opk1t1 : DT := .less 1004 (2001) opk1t2 .leaf
theorem opk1h1 : opk1t1.check (okKD Try.prog opkKn opkDer [3, 4, 5, 6] opkET 100000 60 7 (opkArgs true)) opk1k0y = true := check_less (Ky := opk1k1y) (Kn := opk1k1n) (i := ⟨0, 9223372036854775807, []⟩) (by kernel_rfl) (by kernel_rfl) (by kernel_rfl) (.inr opk1h2) (.inr opk1h129)
theorem opk1h130 : DT.leaf.check (okKD Try.prog opkKn opkDer [3, 4, 5, 6] opkET 100000 60 7 (opkArgs true)) opk1k0n = true := check_leaf (by kernel_rfl)
def opk1t0 : DT := .less 1003 (2001) opk1t1 .leaf
theorem opk1h0 : opk1t0.check (okKD Try.prog opkKn opkDer [3, 4, 5, 6] opkET 100000 60 7 (opkArgs true)) opkKB1 = true := check_less (Ky := opk1k0y) (Kn := opk1k0n) (i := ⟨0, 9223372036854775807, []⟩) (by kernel_rfl) (by kernel_rfl) (by kernel_rfl) (.inr opk1h1) (.inr opk1h130)
theorem opkCheck1 : opk1t0.check (okKD Try.prog opkKn opkDer [3, 4, 5, 6] opkET 100000 60 7 (opkArgs true)) (opkKB ⟨1, 1099511627776, []⟩ ⟨1099511627777, 2199023255552, []⟩) = true := opk1h0
end Go.Proofs.Ytliljfncbljfpaa
