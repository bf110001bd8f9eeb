/- OpKinds: tree 3. -/
import Derived.Test.YtliljfncbljfpaaOpKa
import Derived.ProofKit
namespace Go.Proofs.Ytliljfncbljfpaa
open Go.RowKit
set_option linter.unusedVariables false
set_option linter.unusedSimpArgs false
set_option maxRecDepth 100000

def opkKB3 : KB := opkKB ⟨1099511627777, 9223372036854775807, []⟩ opkBig
def opk3k0y : KB := opkKB3.put 1003 ⟨0, 2000, []⟩
def opk3k0n : KB := opkKB3.put 1003 ⟨2001, 9223372036854775807, []⟩
def opk3k1y : KB := opk3k0y.put 1004 ⟨0, 2000, []⟩
def opk3k1n : KB := opk3k0y.put 1004 ⟨2001, 9223372036854775807, []⟩
def opk3k2y : KB := opk3k1y.put 1005 ⟨0, 2000, []⟩
def opk3k2n : KB := opk3k1y.put 1005 ⟨2001, 9223372036854775807, []⟩
def opk3k3y : KB := opk3k2y.put 1006 ⟨0, 2000, []⟩
def opk3k3n : KB := opk3k2y.put 1006 ⟨2001, 9223372036854775807, []⟩
def opk3k4y : KB := opk3k3y.put 1 ⟨-9223372036854775808, 0, []⟩
def opk3k4n : KB := opk3k3y.put 1 ⟨1, 9223372036854775807, []⟩
theorem opk3h5 : DT.leaf.check (okKD Try.prog opkKn opkDer [3, 4, 5, 6] opkET 100000 60 7 (opkArgs true)) opk3k4y = true := check_leaf (by kernel_rfl)
def opk3k6y : KB := opk3k4n.put 1 ⟨1, 1048576, []⟩
def opk3k6n : KB := opk3k4n.put 1 ⟨1048577, 9223372036854775807, []⟩
def opk3k7y : KB := opk3k6y.put 2 ⟨-9223372036854775808, 0, []⟩
def opk3k7n : KB := opk3k6y.put 2 ⟨1, 9223372036854775807, []⟩
theorem opk3h8 : DT.leaf.check (okKD Try.prog opkKn opkDer [3, 4, 5, 6] opkET 100000 60 7 (opkArgs true)) opk3k7y = true := check_leaf (by kernel_rfl)
def opk3k9y : KB := opk3k7n.put 2 ⟨1, 1099511627776, []⟩
def opk3k9n : KB := opk3k7n.put 2 ⟨1099511627777, 9223372036854775807, []⟩
def opk3k10y : KB := opk3k9y.put 1003 ⟨0, 0, []⟩
def opk3k10n : KB := opk3k9y.put 1003 ⟨1, 2000, []⟩
theorem opk3h11 : DT.leaf.check (okKD Try.prog opkKn opkDer [3, 4, 5, 6] opkET 100000 60 7 (opkArgs true)) opk3k10y = true := check_leaf (by kernel_rfl)
def opk3k12y : KB := opk3k10n.put 1003 ⟨1, 16, []⟩
def opk3k12n : KB := opk3k10n.put 1003 ⟨17, 2000, []⟩
def opk3k13y : KB := opk3k12y.put 1004 ⟨0, 0, []⟩
def opk3k13n : KB := opk3k12y.put 1004 ⟨1, 2000, []⟩
theorem opk3h14 : DT.leaf.check (okKD Try.prog opkKn opkDer [3, 4, 5, 6] opkET 100000 60 7 (opkArgs true)) opk3k13y = true := check_leaf (by kernel_rfl)
def opk3k15y : KB := opk3k13n.put 1004 ⟨1, 16, []⟩
def opk3k15n : KB := opk3k13n.put 1004 ⟨17, 2000, []⟩
def opk3k16y : KB := opk3k15y.put 0 ⟨1, 1, []⟩
def opk3k16n : KB := opk3k15y.put 0 ⟨-9223372036854775808, 9223372036854775807, [1]⟩
def opk3k17y : KB := opk3k16y.put 7 ⟨-9223372036854775808, -1, []⟩
def opk3k17n : KB := opk3k16y.put 7 ⟨0, 9223372036854775807, []⟩
theorem opk3h18 : DT.leaf.check (okKD Try.prog opkKn opkDer [3, 4, 5, 6] opkET 100000 60 7 (opkArgs true)) opk3k17y = true := check_leaf (by kernel_rfl)
def opk3k19y : KB := opk3k17n.put 7 ⟨0, 3, []⟩
def opk3k19n : KB := opk3k17n.put 7 ⟨4, 9223372036854775807, []⟩
def opk3k20y : KB := opk3k19y.put 8 ⟨-9223372036854775808, 0, []⟩
def opk3k20n : KB := opk3k19y.put 8 ⟨1, 9223372036854775807, []⟩
theorem opk3h21 : DT.leaf.check (okKD Try.prog opkKn opkDer [3, 4, 5, 6] opkET 100000 60 7 (opkArgs true)) opk3k20y = true := check_leaf (by kernel_rfl)
def opk3k22y : KB := opk3k20n.put 8 ⟨1, 1048576, []⟩
def opk3k22n : KB := opk3k20n.put 8 ⟨1048577, 9223372036854775807, []⟩
def opk3k23y : KB := opk3k22y.put 1005 ⟨0, 0, []⟩
def opk3k23n : KB := opk3k22y.put 1005 ⟨1, 2000, []⟩
def opk3k24y : KB := opk3k23y.put 1006 ⟨0, 0, []⟩
def opk3k24n : KB := opk3k23y.put 1006 ⟨1, 2000, []⟩
def opk3k25y : KB := opk3k24y.put 9 ⟨0, 0, []⟩
def opk3k25n : KB := opk3k24y.put 9 ⟨-9223372036854775808, 9223372036854775807, [0]⟩
theorem opk3h26 : DT.leaf.check (okKD Try.prog opkKn opkDer [3, 4, 5, 6] opkET 100000 60 7 (opkArgs true)) opk3k25y = true := check_leaf (by kernel_rfl)
theorem opk3h27 : DT.leaf.check (okKD Try.prog opkKn opkDer [3, 4, 5, 6] opkET 100000 60 7 (opkArgs true)) opk3k25n = true := check_leaf (by kernel_rfl)
def opk3t25 : DT := .same 9 (0) .leaf .leaf
theorem opk3h25 : opk3t25.check (okKD Try.prog opkKn opkDer [3, 4, 5, 6] opkET 100000 60 7 (opkArgs true)) opk3k24y = true := check_same (Ky := opk3k25y) (Kn := opk3k25n) (i := ⟨-9223372036854775808, 9223372036854775807, []⟩) (by kernel_rfl) (by kernel_rfl) (by kernel_rfl) (.inr opk3h26) (.inr opk3h27)
theorem opk3h28 : DT.leaf.check (okKD Try.prog opkKn opkDer [3, 4, 5, 6] opkET 100000 60 7 (opkArgs true)) opk3k24n = true := check_leaf (by kernel_rfl)
def opk3t24 : DT := .same 1006 (0) opk3t25 .leaf
theorem opk3h24 : opk3t24.check (okKD Try.prog opkKn opkDer [3, 4, 5, 6] opkET 100000 60 7 (opkArgs true)) opk3k23y = true := check_same (Ky := opk3k24y) (Kn := opk3k24n) (i := ⟨0, 2000, []⟩) (by kernel_rfl) (by kernel_rfl) (by kernel_rfl) (.inr opk3h25) (.inr opk3h28)
theorem opk3h29 : DT.leaf.check (okKD Try.prog opkKn opkDer [3, 4, 5, 6] opkET 100000 60 7 (opkArgs true)) opk3k23n = true := check_leaf (by kernel_rfl)
def opk3t23 : DT := .same 1005 (0) opk3t24 .leaf
theorem opk3h23 : opk3t23.check (okKD Try.prog opkKn opkDer [3, 4, 5, 6] opkET 100000 60 7 (opkArgs true)) opk3k22y = true := check_same (Ky := opk3k23y) (Kn := opk3k23n) (i := ⟨0, 2000, []⟩) (by kernel_rfl) (by kernel_rfl) (by kernel_rfl) (.inr opk3h24) (.inr opk3h29)
theorem opk3h30 : DT.leaf.check (okKD Try.prog opkKn opkDer [3, 4, 5, 6] opkET 100000 60 7 (opkArgs true)) opk3k22n = true := check_leaf (by kernel_rfl)
def opk3t22 : DT := .less 8 (1048577) opk3t23 .leaf
theorem opk3h22 : opk3t22.check (okKD Try.prog opkKn opkDer [3, 4, 5, 6] opkET 100000 60 7 (opkArgs true)) opk3k20n = true := check_less (Ky := opk3k22y) (Kn := opk3k22n) (i := ⟨1, 9223372036854775807, []⟩) (by kernel_rfl) (by kernel_rfl) (by kernel_rfl) (.inr opk3h23) (.inr opk3h30)
def opk3t20 : DT := .less 8 (1) .leaf opk3t22
theorem opk3h20 : opk3t20.check (okKD Try.prog opkKn opkDer [3, 4, 5, 6] opkET 100000 60 7 (opkArgs true)) opk3k19y = true := check_less (Ky := opk3k20y) (Kn := opk3k20n) (i := ⟨-9223372036854775808, 9223372036854775807, []⟩) (by kernel_rfl) (by kernel_rfl) (by kernel_rfl) (.inr opk3h21) (.inr opk3h22)
theorem opk3h31 : DT.leaf.check (okKD Try.prog opkKn opkDer [3, 4, 5, 6] opkET 100000 60 7 (opkArgs true)) opk3k19n = true := check_leaf (by kernel_rfl)
def opk3t19 : DT := .less 7 (4) opk3t20 .leaf
theorem opk3h19 : opk3t19.check (okKD Try.prog opkKn opkDer [3, 4, 5, 6] opkET 100000 60 7 (opkArgs true)) opk3k17n = true := check_less (Ky := opk3k19y) (Kn := opk3k19n) (i := ⟨0, 9223372036854775807, []⟩) (by kernel_rfl) (by kernel_rfl) (by kernel_rfl) (.inr opk3h20) (.inr opk3h31)
def opk3t17 : DT := .less 7 (0) .leaf opk3t19
theorem opk3h17 : opk3t17.check (okKD Try.prog opkKn opkDer [3, 4, 5, 6] opkET 100000 60 7 (opkArgs true)) opk3k16y = true := check_less (Ky := opk3k17y) (Kn := opk3k17n) (i := ⟨-9223372036854775808, 9223372036854775807, []⟩) (by kernel_rfl) (by kernel_rfl) (by kernel_rfl) (.inr opk3h18) (.inr opk3h19)
def opk3k32y : KB := opk3k16n.put 0 ⟨6, 6, [1]⟩
def opk3k32n : KB := opk3k16n.put 0 ⟨-9223372036854775808, 9223372036854775807, [6, 1]⟩
def opk3k33y : KB := opk3k32y.put 7 ⟨-9223372036854775808, -1, []⟩
def opk3k33n : KB := opk3k32y.put 7 ⟨0, 9223372036854775807, []⟩
theorem opk3h34 : DT.leaf.check (okKD Try.prog opkKn opkDer [3, 4, 5, 6] opkET 100000 60 7 (opkArgs true)) opk3k33y = true := check_leaf (by kernel_rfl)
def opk3k35y : KB := opk3k33n.put 7 ⟨0, 3, []⟩
def opk3k35n : KB := opk3k33n.put 7 ⟨4, 9223372036854775807, []⟩
def opk3k36y : KB := opk3k35y.put 8 ⟨-9223372036854775808, 0, []⟩
def opk3k36n : KB := opk3k35y.put 8 ⟨1, 9223372036854775807, []⟩
theorem opk3h37 : DT.leaf.check (okKD Try.prog opkKn opkDer [3, 4, 5, 6] opkET 100000 60 7 (opkArgs true)) opk3k36y = true := check_leaf (by kernel_rfl)
def opk3k38y : KB := opk3k36n.put 8 ⟨1, 1048576, []⟩
def opk3k38n : KB := opk3k36n.put 8 ⟨1048577, 9223372036854775807, []⟩
def opk3k39y : KB := opk3k38y.put 1005 ⟨0, 0, []⟩
def opk3k39n : KB := opk3k38y.put 1005 ⟨1, 2000, []⟩
def opk3k40y : KB := opk3k39y.put 1006 ⟨0, 0, []⟩
def opk3k40n : KB := opk3k39y.put 1006 ⟨1, 2000, []⟩
def opk3k41y : KB := opk3k40y.put 9 ⟨0, 0, []⟩
def opk3k41n : KB := opk3k40y.put 9 ⟨-9223372036854775808, 9223372036854775807, [0]⟩
theorem opk3h42 : DT.leaf.check (okKD Try.prog opkKn opkDer [3, 4, 5, 6] opkET 100000 60 7 (opkArgs true)) opk3k41y = true := check_leaf (by kernel_rfl)
theorem opk3h43 : DT.leaf.check (okKD Try.prog opkKn opkDer [3, 4, 5, 6] opkET 100000 60 7 (opkArgs true)) opk3k41n = true := check_leaf (by kernel_rfl)
def opk3t41 : DT := .same 9 (0) .leaf .leaf
theorem opk3h41 : opk3t41.check (okKD Try.prog opkKn opkDer [3, 4, 5, 6] opkET 100000 60 7 (opkArgs true)) opk3k40y = true := check_same (Ky := opk3k41y) (Kn := opk3k41n) (i := ⟨-9223372036854775808, 9223372036854775807, []⟩) (by kernel_rfl) (by kernel_rfl) (by kernel_rfl) (.inr opk3h42) (.inr opk3h43)
theorem opk3h44 : DT.leaf.check (okKD Try.prog opkKn opkDer [3, 4, 5, 6] opkET 100000 60 7 (opkArgs true)) opk3k40n = true := check_leaf (by kernel_rfl)
def opk3t40 : DT := .same 1006 (0) opk3t41 .leaf
theorem opk3h40 : opk3t40.check (okKD Try.prog opkKn opkDer [3, 4, 5, 6] opkET 100000 60 7 (opkArgs true)) opk3k39y = true := check_same (Ky := opk3k40y) (Kn := opk3k40n) (i := ⟨0, 2000, []⟩) (by kernel_rfl) (by kernel_rfl) (by kernel_rfl) (.inr opk3h41) (.inr opk3h44)
theorem opk3h45 : DT.leaf.check (okKD Try.prog opkKn opkDer [3, 4, 5, 6] opkET 100000 60 7 (opkArgs true)) opk3k39n = true := check_leaf (by kernel_rfl)
def opk3t39 : DT := .same 1005 (0) opk3t40 .leaf
theorem opk3h39 : opk3t39.check (okKD Try.prog opkKn opkDer [3, 4, 5, 6] opkET 100000 60 7 (opkArgs true)) opk3k38y = true := check_same (Ky := opk3k39y) (Kn := opk3k39n) (i := ⟨0, 2000, []⟩) (by kernel_rfl) (by kernel_rfl) (by kernel_rfl) (.inr opk3h40) (.inr opk3h45)
theorem opk3h46 : DT.leaf.check (okKD Try.prog opkKn opkDer [3, 4, 5, 6] opkET 100000 60 7 (opkArgs true)) opk3k38n = true := check_leaf (by kernel_rfl)
def opk3t38 : DT := .less 8 (1048577) opk3t39 .leaf
theorem opk3h38 : opk3t38.check (okKD Try.prog opkKn opkDer [3, 4, 5, 6] opkET 100000 60 7 (opkArgs true)) opk3k36n = true := check_less (Ky := opk3k38y) (Kn := opk3k38n) (i := ⟨1, 9223372036854775807, []⟩) (by kernel_rfl) (by kernel_rfl) (by kernel_rfl) (.inr opk3h39) (.inr opk3h46)
def opk3t36 : DT := .less 8 (1) .leaf opk3t38
theorem opk3h36 : opk3t36.check (okKD Try.prog opkKn opkDer [3, 4, 5, 6] opkET 100000 60 7 (opkArgs true)) opk3k35y = true := check_less (Ky := opk3k36y) (Kn := opk3k36n) (i := ⟨-9223372036854775808, 9223372036854775807, []⟩) (by kernel_rfl) (by kernel_rfl) (by kernel_rfl) (.inr opk3h37) (.inr opk3h38)
theorem opk3h47 : DT.leaf.check (okKD Try.prog opkKn opkDer [3, 4, 5, 6] opkET 100000 60 7 (opkArgs true)) opk3k35n = true := check_leaf (by kernel_rfl)
def opk3t35 : DT := .less 7 (4) opk3t36 .leaf
theorem opk3h35 : opk3t35.check (okKD Try.prog opkKn opkDer [3, 4, 5, 6] opkET 100000 60 7 (opkArgs true)) opk3k33n = true := check_less (Ky := opk3k35y) (Kn := opk3k35n) (i := ⟨0, 9223372036854775807, []⟩) (by kernel_rfl) (by kernel_rfl) (by kernel_rfl) (.inr opk3h36) (.inr opk3h47)
def opk3t33 : DT := .less 7 (0) .leaf opk3t35
theorem opk3h33 : opk3t33.check (okKD Try.prog opkKn opkDer [3, 4, 5, 6] opkET 100000 60 7 (opkArgs true)) opk3k32y = true := check_less (Ky := opk3k33y) (Kn := opk3k33n) (i := ⟨-9223372036854775808, 9223372036854775807, []⟩) (by kernel_rfl) (by kernel_rfl) (by kernel_rfl) (.inr opk3h34) (.inr opk3h35)
def opk3k48y : KB := opk3k32n.put 0 ⟨2, 2, [6, 1]⟩
def opk3k48n : KB := opk3k32n.put 0 ⟨-9223372036854775808, 9223372036854775807, [2, 6, 1]⟩
def opk3k49y : KB := opk3k48y.put 7 ⟨-9223372036854775808, -1, []⟩
def opk3k49n : KB := opk3k48y.put 7 ⟨0, 9223372036854775807, []⟩
theorem opk3h50 : DT.leaf.check (okKD Try.prog opkKn opkDer [3, 4, 5, 6] opkET 100000 60 7 (opkArgs true)) opk3k49y = true := check_leaf (by kernel_rfl)
def opk3k51y : KB := opk3k49n.put 7 ⟨0, 3, []⟩
def opk3k51n : KB := opk3k49n.put 7 ⟨4, 9223372036854775807, []⟩
def opk3k52y : KB := opk3k51y.put 8 ⟨-9223372036854775808, 0, []⟩
def opk3k52n : KB := opk3k51y.put 8 ⟨1, 9223372036854775807, []⟩
theorem opk3h53 : DT.leaf.check (okKD Try.prog opkKn opkDer [3, 4, 5, 6] opkET 100000 60 7 (opkArgs true)) opk3k52y = true := check_leaf (by kernel_rfl)
def opk3k54y : KB := opk3k52n.put 8 ⟨1, 1048576, []⟩
def opk3k54n : KB := opk3k52n.put 8 ⟨1048577, 9223372036854775807, []⟩
def opk3k55y : KB := opk3k54y.put 1005 ⟨0, 0, []⟩
def opk3k55n : KB := opk3k54y.put 1005 ⟨1, 2000, []⟩
theorem opk3h56 : DT.leaf.check (okKD Try.prog opkKn opkDer [3, 4, 5, 6] opkET 100000 60 7 (opkArgs true)) opk3k55y = true := check_leaf (by kernel_rfl)
def opk3k57y : KB := opk3k55n.put 1005 ⟨1, 16, []⟩
def opk3k57n : KB := opk3k55n.put 1005 ⟨17, 2000, []⟩
def opk3k58y : KB := opk3k57y.put 1006 ⟨0, 0, []⟩
def opk3k58n : KB := opk3k57y.put 1006 ⟨1, 2000, []⟩
theorem opk3h59 : DT.leaf.check (okKD Try.prog opkKn opkDer [3, 4, 5, 6] opkET 100000 60 7 (opkArgs true)) opk3k58y = true := check_leaf (by kernel_rfl)
def opk3k60y : KB := opk3k58n.put 1006 ⟨1, 16, []⟩
def opk3k60n : KB := opk3k58n.put 1006 ⟨17, 2000, []⟩
def opk3k61y : KB := opk3k60y.put 9 ⟨0, 0, []⟩
def opk3k61n : KB := opk3k60y.put 9 ⟨-9223372036854775808, 9223372036854775807, [0]⟩
theorem opk3h62 : DT.leaf.check (okKD Try.prog opkKn opkDer [3, 4, 5, 6] opkET 100000 60 7 (opkArgs true)) opk3k61y = true := check_leaf (by kernel_rfl)
theorem opk3h63 : DT.leaf.check (okKD Try.prog opkKn opkDer [3, 4, 5, 6] opkET 100000 60 7 (opkArgs true)) opk3k61n = true := check_leaf (by kernel_rfl)
def opk3t61 : DT := .same 9 (0) .leaf .leaf
theorem opk3h61 : opk3t61.check (okKD Try.prog opkKn opkDer [3, 4, 5, 6] opkET 100000 60 7 (opkArgs true)) opk3k60y = true := check_same (Ky := opk3k61y) (Kn := opk3k61n) (i := ⟨-9223372036854775808, 9223372036854775807, []⟩) (by kernel_rfl) (by kernel_rfl) (by kernel_rfl) (.inr opk3h62) (.inr opk3h63)
theorem opk3h64 : DT.leaf.check (okKD Try.prog opkKn opkDer [3, 4, 5, 6] opkET 100000 60 7 (opkArgs true)) opk3k60n = true := check_leaf (by kernel_rfl)
def opk3t60 : DT := .less 1006 (17) opk3t61 .leaf
theorem opk3h60 : opk3t60.check (okKD Try.prog opkKn opkDer [3, 4, 5, 6] opkET 100000 60 7 (opkArgs true)) opk3k58n = true := check_less (Ky := opk3k60y) (Kn := opk3k60n) (i := ⟨1, 2000, []⟩) (by kernel_rfl) (by kernel_rfl) (by kernel_rfl) (.inr opk3h61) (.inr opk3h64)
def opk3t58 : DT := .less 1006 (1) .leaf opk3t60
theorem opk3h58 : opk3t58.check (okKD Try.prog opkKn opkDer [3, 4, 5, 6] opkET 100000 60 7 (opkArgs true)) opk3k57y = true := check_less (Ky := opk3k58y) (Kn := opk3k58n) (i := ⟨0, 2000, []⟩) (by kernel_rfl) (by kernel_rfl) (by kernel_rfl) (.inr opk3h59) (.inr opk3h60)
theorem opk3h65 : DT.leaf.check (okKD Try.prog opkKn opkDer [3, 4, 5, 6] opkET 100000 60 7 (opkArgs true)) opk3k57n = true := check_leaf (by kernel_rfl)
def opk3t57 : DT := .less 1005 (17) opk3t58 .leaf
theorem opk3h57 : opk3t57.check (okKD Try.prog opkKn opkDer [3, 4, 5, 6] opkET 100000 60 7 (opkArgs true)) opk3k55n = true := check_less (Ky := opk3k57y) (Kn := opk3k57n) (i := ⟨1, 2000, []⟩) (by kernel_rfl) (by kernel_rfl) (by kernel_rfl) (.inr opk3h58) (.inr opk3h65)
def opk3t55 : DT := .less 1005 (1) .leaf opk3t57
theorem opk3h55 : opk3t55.check (okKD Try.prog opkKn opkDer [3, 4, 5, 6] opkET 100000 60 7 (opkArgs true)) opk3k54y = true := check_less (Ky := opk3k55y) (Kn := opk3k55n) (i := ⟨0, 2000, []⟩) (by kernel_rfl) (by kernel_rfl) (by kernel_rfl) (.inr opk3h56) (.inr opk3h57)
theorem opk3h66 : DT.leaf.check (okKD Try.prog opkKn opkDer [3, 4, 5, 6] opkET 100000 60 7 (opkArgs true)) opk3k54n = true := check_leaf (by kernel_rfl)
def opk3t54 : DT := .less 8 (1048577) opk3t55 .leaf
theorem opk3h54 : opk3t54.check (okKD Try.prog opkKn opkDer [3, 4, 5, 6] opkET 100000 60 7 (opkArgs true)) opk3k52n = true := check_less (Ky := opk3k54y) (Kn := opk3k54n) (i := ⟨1, 9223372036854775807, []⟩) (by kernel_rfl) (by kernel_rfl) (by kernel_rfl) (.inr opk3h55) (.inr opk3h66)
def opk3t52 : DT := .less 8 (1) .leaf opk3t54
theorem opk3h52 : opk3t52.check (okKD Try.prog opkKn opkDer [3, 4, 5, 6] opkET 100000 60 7 (opkArgs true)) opk3k51y = true := check_less (Ky := opk3k52y) (Kn := opk3k52n) (i := ⟨-9223372036854775808, 9223372036854775807, []⟩) (by kernel_rfl) (by kernel_rfl) (by kernel_rfl) (.inr opk3h53) (.inr opk3h54)
theorem opk3h67 : DT.leaf.check (okKD Try.prog opkKn opkDer [3, 4, 5, 6] opkET 100000 60 7 (opkArgs true)) opk3k51n = true := check_leaf (by kernel_rfl)
def opk3t51 : DT := .less 7 (4) opk3t52 .leaf
theorem opk3h51 : opk3t51.check (okKD Try.prog opkKn opkDer [3, 4, 5, 6] opkET 100000 60 7 (opkArgs true)) opk3k49n = true := check_less (Ky := opk3k51y) (Kn := opk3k51n) (i := ⟨0, 9223372036854775807, []⟩) (by kernel_rfl) (by kernel_rfl) (by kernel_rfl) (.inr opk3h52) (.inr opk3h67)
def opk3t49 : DT := .less 7 (0) .leaf opk3t51
theorem opk3h49 : opk3t49.check (okKD Try.prog opkKn opkDer [3, 4, 5, 6] opkET 100000 60 7 (opkArgs true)) opk3k48y = true := check_less (Ky := opk3k49y) (Kn := opk3k49n) (i := ⟨-9223372036854775808, 9223372036854775807, []⟩) (by kernel_rfl) (by kernel_rfl) (by kernel_rfl) (.inr opk3h50) (.inr opk3h51)
def opk3k68y : KB := opk3k48n.put 0 ⟨3, 3, [2, 6, 1]⟩
def opk3k68n : KB := opk3k48n.put 0 ⟨-9223372036854775808, 9223372036854775807, [3, 2, 6, 1]⟩
def opk3k69y : KB := opk3k68y.put 7 ⟨-9223372036854775808, 0, []⟩
def opk3k69n : KB := opk3k68y.put 7 ⟨1, 9223372036854775807, []⟩
theorem opk3h70 : DT.leaf.check (okKD Try.prog opkKn opkDer [3, 4, 5, 6] opkET 100000 60 7 (opkArgs true)) opk3k69y = true := check_leaf (by kernel_rfl)
def opk3k71y : KB := opk3k69n.put 7 ⟨1, 3, []⟩
def opk3k71n : KB := opk3k69n.put 7 ⟨4, 9223372036854775807, []⟩
def opk3k72y : KB := opk3k71y.put 8 ⟨-9223372036854775808, 0, []⟩
def opk3k72n : KB := opk3k71y.put 8 ⟨1, 9223372036854775807, []⟩
theorem opk3h73 : DT.leaf.check (okKD Try.prog opkKn opkDer [3, 4, 5, 6] opkET 100000 60 7 (opkArgs true)) opk3k72y = true := check_leaf (by kernel_rfl)
def opk3k74y : KB := opk3k72n.put 8 ⟨1, 1048576, []⟩
def opk3k74n : KB := opk3k72n.put 8 ⟨1048577, 9223372036854775807, []⟩
def opk3k75y : KB := opk3k74y.put 9 ⟨-9223372036854775808, 0, []⟩
def opk3k75n : KB := opk3k74y.put 9 ⟨1, 9223372036854775807, []⟩
theorem opk3h76 : DT.leaf.check (okKD Try.prog opkKn opkDer [3, 4, 5, 6] opkET 100000 60 7 (opkArgs true)) opk3k75y = true := check_leaf (by kernel_rfl)
def opk3k77y : KB := opk3k75n.put 9 ⟨1, 1024, []⟩
def opk3k77n : KB := opk3k75n.put 9 ⟨1025, 9223372036854775807, []⟩
def opk3k78y : KB := opk3k77y.put 1005 ⟨0, 0, []⟩
def opk3k78n : KB := opk3k77y.put 1005 ⟨1, 2000, []⟩
def opk3k79y : KB := opk3k78y.put 1006 ⟨0, 0, []⟩
def opk3k79n : KB := opk3k78y.put 1006 ⟨1, 2000, []⟩
theorem opk3h80 : DT.leaf.check (okKD Try.prog opkKn opkDer [3, 4, 5, 6] opkET 100000 60 7 (opkArgs true)) opk3k79y = true := check_leaf (by kernel_rfl)
theorem opk3h81 : DT.leaf.check (okKD Try.prog opkKn opkDer [3, 4, 5, 6] opkET 100000 60 7 (opkArgs true)) opk3k79n = true := check_leaf (by kernel_rfl)
def opk3t79 : DT := .same 1006 (0) .leaf .leaf
theorem opk3h79 : opk3t79.check (okKD Try.prog opkKn opkDer [3, 4, 5, 6] opkET 100000 60 7 (opkArgs true)) opk3k78y = true := check_same (Ky := opk3k79y) (Kn := opk3k79n) (i := ⟨0, 2000, []⟩) (by kernel_rfl) (by kernel_rfl) (by kernel_rfl) (.inr opk3h80) (.inr opk3h81)
theorem opk3h82 : DT.leaf.check (okKD Try.prog opkKn opkDer [3, 4, 5, 6] opkET 100000 60 7 (opkArgs true)) opk3k78n = true := check_leaf (by kernel_rfl)
def opk3t78 : DT := .same 1005 (0) opk3t79 .leaf
theorem opk3h78 : opk3t78.check (okKD Try.prog opkKn opkDer [3, 4, 5, 6] opkET 100000 60 7 (opkArgs true)) opk3k77y = true := check_same (Ky := opk3k78y) (Kn := opk3k78n) (i := ⟨0, 2000, []⟩) (by kernel_rfl) (by kernel_rfl) (by kernel_rfl) (.inr opk3h79) (.inr opk3h82)
theorem opk3h83 : DT.leaf.check (okKD Try.prog opkKn opkDer [3, 4, 5, 6] opkET 100000 60 7 (opkArgs true)) opk3k77n = true := check_leaf (by kernel_rfl)
def opk3t77 : DT := .less 9 (1025) opk3t78 .leaf
theorem opk3h77 : opk3t77.check (okKD Try.prog opkKn opkDer [3, 4, 5, 6] opkET 100000 60 7 (opkArgs true)) opk3k75n = true := check_less (Ky := opk3k77y) (Kn := opk3k77n) (i := ⟨1, 9223372036854775807, []⟩) (by kernel_rfl) (by kernel_rfl) (by kernel_rfl) (.inr opk3h78) (.inr opk3h83)
def opk3t75 : DT := .less 9 (1) .leaf opk3t77
theorem opk3h75 : opk3t75.check (okKD Try.prog opkKn opkDer [3, 4, 5, 6] opkET 100000 60 7 (opkArgs true)) opk3k74y = true := check_less (Ky := opk3k75y) (Kn := opk3k75n) (i := ⟨-9223372036854775808, 9223372036854775807, []⟩) (by kernel_rfl) (by kernel_rfl) (by kernel_rfl) (.inr opk3h76) (.inr opk3h77)
theorem opk3h84 : DT.leaf.check (okKD Try.prog opkKn opkDer [3, 4, 5, 6] opkET 100000 60 7 (opkArgs true)) opk3k74n = true := check_leaf (by kernel_rfl)
def opk3t74 : DT := .less 8 (1048577) opk3t75 .leaf
theorem opk3h74 : opk3t74.check (okKD Try.prog opkKn opkDer [3, 4, 5, 6] opkET 100000 60 7 (opkArgs true)) opk3k72n = true := check_less (Ky := opk3k74y) (Kn := opk3k74n) (i := ⟨1, 9223372036854775807, []⟩) (by kernel_rfl) (by kernel_rfl) (by kernel_rfl) (.inr opk3h75) (.inr opk3h84)
def opk3t72 : DT := .less 8 (1) .leaf opk3t74
theorem opk3h72 : opk3t72.check (okKD Try.prog opkKn opkDer [3, 4, 5, 6] opkET 100000 60 7 (opkArgs true)) opk3k71y = true := check_less (Ky := opk3k72y) (Kn := opk3k72n) (i := ⟨-9223372036854775808, 9223372036854775807, []⟩) (by kernel_rfl) (by kernel_rfl) (by kernel_rfl) (.inr opk3h73) (.inr opk3h74)
theorem opk3h85 : DT.leaf.check (okKD Try.prog opkKn opkDer [3, 4, 5, 6] opkET 100000 60 7 (opkArgs true)) opk3k71n = true := check_leaf (by kernel_rfl)
def opk3t71 : DT := .less 7 (4) opk3t72 .leaf
theorem opk3h71 : opk3t71.check (okKD Try.prog opkKn opkDer [3, 4, 5, 6] opkET 100000 60 7 (opkArgs true)) opk3k69n = true := check_less (Ky := opk3k71y) (Kn := opk3k71n) (i := ⟨1, 9223372036854775807, []⟩) (by kernel_rfl) (by kernel_rfl) (by kernel_rfl) (.inr opk3h72) (.inr opk3h85)
def opk3t69 : DT := .less 7 (1) .leaf opk3t71
theorem opk3h69 : opk3t69.check (okKD Try.prog opkKn opkDer [3, 4, 5, 6] opkET 100000 60 7 (opkArgs true)) opk3k68y = true := check_less (Ky := opk3k69y) (Kn := opk3k69n) (i := ⟨-9223372036854775808, 9223372036854775807, []⟩) (by kernel_rfl) (by kernel_rfl) (by kernel_rfl) (.inr opk3h70) (.inr opk3h71)
def opk3k86y : KB := opk3k68n.put 0 ⟨4, 4, [3, 2, 6, 1]⟩
def opk3k86n : KB := opk3k68n.put 0 ⟨-9223372036854775808, 9223372036854775807, [4, 3, 2, 6, 1]⟩
theorem opk3h87 : DT.leaf.check (okKD Try.prog opkKn opkDer [3, 4, 5, 6] opkET 100000 60 7 (opkArgs true)) opk3k86y = true := check_leaf (by kernel_rfl)
def opk3k88y : KB := opk3k86n.put 0 ⟨5, 5, [4, 3, 2, 6, 1]⟩
def opk3k88n : KB := opk3k86n.put 0 ⟨-9223372036854775808, 9223372036854775807, [5, 4, 3, 2, 6, 1]⟩
def opk3k89y : KB := opk3k88y.put 1005 ⟨0, 0, []⟩
def opk3k89n : KB := opk3k88y.put 1005 ⟨1, 2000, []⟩
def opk3k90y : KB := opk3k89y.put 1006 ⟨0, 0, []⟩
def opk3k90n : KB := opk3k89y.put 1006 ⟨1, 2000, []⟩
def opk3k91y : KB := opk3k90y.put 7 ⟨0, 0, []⟩
def opk3k91n : KB := opk3k90y.put 7 ⟨-9223372036854775808, 9223372036854775807, [0]⟩
def opk3k92y : KB := opk3k91y.put 8 ⟨0, 0, []⟩
def opk3k92n : KB := opk3k91y.put 8 ⟨-9223372036854775808, 9223372036854775807, [0]⟩
def opk3k93y : KB := opk3k92y.put 9 ⟨0, 0, []⟩
def opk3k93n : KB := opk3k92y.put 9 ⟨-9223372036854775808, 9223372036854775807, [0]⟩
theorem opk3h94 : DT.leaf.check (okKD Try.prog opkKn opkDer [3, 4, 5, 6] opkET 100000 60 7 (opkArgs true)) opk3k93y = true := check_leaf (by kernel_rfl)
theorem opk3h95 : DT.leaf.check (okKD Try.prog opkKn opkDer [3, 4, 5, 6] opkET 100000 60 7 (opkArgs true)) opk3k93n = true := check_leaf (by kernel_rfl)
def opk3t93 : DT := .same 9 (0) .leaf .leaf
theorem opk3h93 : opk3t93.check (okKD Try.prog opkKn opkDer [3, 4, 5, 6] opkET 100000 60 7 (opkArgs true)) opk3k92y = true := check_same (Ky := opk3k93y) (Kn := opk3k93n) (i := ⟨-9223372036854775808, 9223372036854775807, []⟩) (by kernel_rfl) (by kernel_rfl) (by kernel_rfl) (.inr opk3h94) (.inr opk3h95)
theorem opk3h96 : DT.leaf.check (okKD Try.prog opkKn opkDer [3, 4, 5, 6] opkET 100000 60 7 (opkArgs true)) opk3k92n = true := check_leaf (by kernel_rfl)
def opk3t92 : DT := .same 8 (0) opk3t93 .leaf
theorem opk3h92 : opk3t92.check (okKD Try.prog opkKn opkDer [3, 4, 5, 6] opkET 100000 60 7 (opkArgs true)) opk3k91y = true := check_same (Ky := opk3k92y) (Kn := opk3k92n) (i := ⟨-9223372036854775808, 9223372036854775807, []⟩) (by kernel_rfl) (by kernel_rfl) (by kernel_rfl) (.inr opk3h93) (.inr opk3h96)
theorem opk3h97 : DT.leaf.check (okKD Try.prog opkKn opkDer [3, 4, 5, 6] opkET 100000 60 7 (opkArgs true)) opk3k91n = true := check_leaf (by kernel_rfl)
def opk3t91 : DT := .same 7 (0) opk3t92 .leaf
theorem opk3h91 : opk3t91.check (okKD Try.prog opkKn opkDer [3, 4, 5, 6] opkET 100000 60 7 (opkArgs true)) opk3k90y = true := check_same (Ky := opk3k91y) (Kn := opk3k91n) (i := ⟨-9223372036854775808, 9223372036854775807, []⟩) (by kernel_rfl) (by kernel_rfl) (by kernel_rfl) (.inr opk3h92) (.inr opk3h97)
theorem opk3h98 : DT.leaf.check (okKD Try.prog opkKn opkDer [3, 4, 5, 6] opkET 100000 60 7 (opkArgs true)) opk3k90n = true := check_leaf (by kernel_rfl)
def opk3t90 : DT := .same 1006 (0) opk3t91 .leaf
theorem opk3h90 : opk3t90.check (okKD Try.prog opkKn opkDer [3, 4, 5, 6] opkET 100000 60 7 (opkArgs true)) opk3k89y = true := check_same (Ky := opk3k90y) (Kn := opk3k90n) (i := ⟨0, 2000, []⟩) (by kernel_rfl) (by kernel_rfl) (by kernel_rfl) (.inr opk3h91) (.inr opk3h98)
theorem opk3h99 : DT.leaf.check (okKD Try.prog opkKn opkDer [3, 4, 5, 6] opkET 100000 60 7 (opkArgs true)) opk3k89n = true := check_leaf (by kernel_rfl)
def opk3t89 : DT := .same 1005 (0) opk3t90 .leaf
theorem opk3h89 : opk3t89.check (okKD Try.prog opkKn opkDer [3, 4, 5, 6] opkET 100000 60 7 (opkArgs true)) opk3k88y = true := check_same (Ky := opk3k89y) (Kn := opk3k89n) (i := ⟨0, 2000, []⟩) (by kernel_rfl) (by kernel_rfl) (by kernel_rfl) (.inr opk3h90) (.inr opk3h99)
def opk3k100y : KB := opk3k88n.put 0 ⟨7, 7, [5, 4, 3, 2, 6, 1]⟩
def opk3k100n : KB := opk3k88n.put 0 ⟨-9223372036854775808, 9223372036854775807, [7, 5, 4, 3, 2, 6, 1]⟩
def opk3k101y : KB := opk3k100y.put 1005 ⟨0, 0, []⟩
def opk3k101n : KB := opk3k100y.put 1005 ⟨1, 2000, []⟩
def opk3k102y : KB := opk3k101y.put 1006 ⟨0, 0, []⟩
def opk3k102n : KB := opk3k101y.put 1006 ⟨1, 2000, []⟩
def opk3k103y : KB := opk3k102y.put 7 ⟨0, 0, []⟩
def opk3k103n : KB := opk3k102y.put 7 ⟨-9223372036854775808, 9223372036854775807, [0]⟩
def opk3k104y : KB := opk3k103y.put 8 ⟨0, 0, []⟩
def opk3k104n : KB := opk3k103y.put 8 ⟨-9223372036854775808, 9223372036854775807, [0]⟩
def opk3k105y : KB := opk3k104y.put 9 ⟨0, 0, []⟩
def opk3k105n : KB := opk3k104y.put 9 ⟨-9223372036854775808, 9223372036854775807, [0]⟩
theorem opk3h106 : DT.leaf.check (okKD Try.prog opkKn opkDer [3, 4, 5, 6] opkET 100000 60 7 (opkArgs true)) opk3k105y = true := check_leaf (by kernel_rfl)
theorem opk3h107 : DT.leaf.check (okKD Try.prog opkKn opkDer [3, 4, 5, 6] opkET 100000 60 7 (opkArgs true)) opk3k105n = true := check_leaf (by kernel_rfl)
def opk3t105 : DT := .same 9 (0) .leaf .leaf
theorem opk3h105 : opk3t105.check (okKD Try.prog opkKn opkDer [3, 4, 5, 6] opkET 100000 60 7 (opkArgs true)) opk3k104y = true := check_same (Ky := opk3k105y) (Kn := opk3k105n) (i := ⟨-9223372036854775808, 9223372036854775807, []⟩) (by kernel_rfl) (by kernel_rfl) (by kernel_rfl) (.inr opk3h106) (.inr opk3h107)
theorem opk3h108 : DT.leaf.check (okKD Try.prog opkKn opkDer [3, 4, 5, 6] opkET 100000 60 7 (opkArgs true)) opk3k104n = true := check_leaf (by kernel_rfl)
def opk3t104 : DT := .same 8 (0) opk3t105 .leaf
theorem opk3h104 : opk3t104.check (okKD Try.prog opkKn opkDer [3, 4, 5, 6] opkET 100000 60 7 (opkArgs true)) opk3k103y = true := check_same (Ky := opk3k104y) (Kn := opk3k104n) (i := ⟨-9223372036854775808, 9223372036854775807, []⟩) (by kernel_rfl) (by kernel_rfl) (by kernel_rfl) (.inr opk3h105) (.inr opk3h108)
theorem opk3h109 : DT.leaf.check (okKD Try.prog opkKn opkDer [3, 4, 5, 6] opkET 100000 60 7 (opkArgs true)) opk3k103n = true := check_leaf (by kernel_rfl)
def opk3t103 : DT := .same 7 (0) opk3t104 .leaf
theorem opk3h103 : opk3t103.check (okKD Try.prog opkKn opkDer [3, 4, 5, 6] opkET 100000 60 7 (opkArgs true)) opk3k102y = true := check_same (Ky := opk3k103y) (Kn := opk3k103n) (i := ⟨-9223372036854775808, 9223372036854775807, []⟩) (by kernel_rfl) (by kernel_rfl) (by kernel_rfl) (.inr opk3h104) (.inr opk3h109)
theorem opk3h110 : DT.leaf.check (okKD Try.prog opkKn opkDer [3, 4, 5, 6] opkET 100000 60 7 (opkArgs true)) opk3k102n = true := check_leaf (by kernel_rfl)
def opk3t102 : DT := .same 1006 (0) opk3t103 .leaf
theorem opk3h102 : opk3t102.check (okKD Try.prog opkKn opkDer [3, 4, 5, 6] opkET 100000 60 7 (opkArgs true)) opk3k101y = true := check_same (Ky := opk3k102y) (Kn := opk3k102n) (i := ⟨0, 2000, []⟩) (by kernel_rfl) (by kernel_rfl) (by kernel_rfl) (.inr opk3h103) (.inr opk3h110)
theorem opk3h111 : DT.leaf.check (okKD Try.prog opkKn opkDer [3, 4, 5, 6] opkET 100000 60 7 (opkArgs true)) opk3k101n = true := check_leaf (by kernel_rfl)
def opk3t101 : DT := .same 1005 (0) opk3t102 .leaf
theorem opk3h101 : opk3t101.check (okKD Try.prog opkKn opkDer [3, 4, 5, 6] opkET 100000 60 7 (opkArgs true)) opk3k100y = true := check_same (Ky := opk3k101y) (Kn := opk3k101n) (i := ⟨0, 2000, []⟩) (by kernel_rfl) (by kernel_rfl) (by kernel_rfl) (.inr opk3h102) (.inr opk3h111)
theorem opk3h112 : DT.leaf.check (okKD Try.prog opkKn opkDer [3, 4, 5, 6] opkET 100000 60 7 (opkArgs true)) opk3k100n = true := check_leaf (by kernel_rfl)
def opk3t100 : DT := .same 0 (7) opk3t101 .leaf
theorem opk3h100 : opk3t100.check (okKD Try.prog opkKn opkDer [3, 4, 5, 6] opkET 100000 60 7 (opkArgs true)) opk3k88n = true := check_same (Ky := opk3k100y) (Kn := opk3k100n) (i := ⟨-9223372036854775808, 9223372036854775807, [5, 4, 3, 2, 6, 1]⟩) (by kernel_rfl) (by kernel_rfl) (by kernel_rfl) (.inr opk3h101) (.inr opk3h112)
def opk3t88 : DT := .same 0 (5) opk3t89 opk3t100
theorem opk3h88 : opk3t88.check (okKD Try.prog opkKn opkDer [3, 4, 5, 6] opkET 100000 60 7 (opkArgs true)) opk3k86n = true := check_same (Ky := opk3k88y) (Kn := opk3k88n) (i := ⟨-9223372036854775808, 9223372036854775807, [4, 3, 2, 6, 1]⟩) (by kernel_rfl) (by kernel_rfl) (by kernel_rfl) (.inr opk3h89) (.inr opk3h100)
def opk3t86 : DT := .same 0 (4) .leaf opk3t88
theorem opk3h86 : opk3t86.check (okKD Try.prog opkKn opkDer [3, 4, 5, 6] opkET 100000 60 7 (opkArgs true)) opk3k68n = true := check_same (Ky := opk3k86y) (Kn := opk3k86n) (i := ⟨-9223372036854775808, 9223372036854775807, [3, 2, 6, 1]⟩) (by kernel_rfl) (by kernel_rfl) (by kernel_rfl) (.inr opk3h87) (.inr opk3h88)
def opk3t68 : DT := .same 0 (3) opk3t69 opk3t86
theorem opk3h68 : opk3t68.check (okKD Try.prog opkKn opkDer [3, 4, 5, 6] opkET 100000 60 7 (opkArgs true)) opk3k48n = true := check_same (Ky := opk3k68y) (Kn := opk3k68n) (i := ⟨-9223372036854775808, 9223372036854775807, [2, 6, 1]⟩) (by kernel_rfl) (by kernel_rfl) (by kernel_rfl) (.inr opk3h69) (.inr opk3h86)
def opk3t48 : DT := .same 0 (2) opk3t49 opk3t68
theorem opk3h48 : opk3t48.check (okKD Try.prog opkKn opkDer [3, 4, 5, 6] opkET 100000 60 7 (opkArgs true)) opk3k32n = true := check_same (Ky := opk3k48y) (Kn := opk3k48n) (i := ⟨-9223372036854775808, 9223372036854775807, [6, 1]⟩) (by kernel_rfl) (by kernel_rfl) (by kernel_rfl) (.inr opk3h49) (.inr opk3h68)
def opk3t32 : DT := .same 0 (6) opk3t33 opk3t48
theorem opk3h32 : opk3t32.check (okKD Try.prog opkKn opkDer [3, 4, 5, 6] opkET 100000 60 7 (opkArgs true)) opk3k16n = true := check_same (Ky := opk3k32y) (Kn := opk3k32n) (i := ⟨-9223372036854775808, 9223372036854775807, [1]⟩) (by kernel_rfl) (by kernel_rfl) (by kernel_rfl) (.inr opk3h33) (.inr opk3h48)
def opk3t16 : DT := .same 0 (1) opk3t17 opk3t32
theorem opk3h16 : opk3t16.check (okKD Try.prog opkKn opkDer [3, 4, 5, 6] opkET 100000 60 7 (opkArgs true)) opk3k15y = true := check_same (Ky := opk3k16y) (Kn := opk3k16n) (i := ⟨-9223372036854775808, 9223372036854775807, []⟩) (by kernel_rfl) (by kernel_rfl) (by kernel_rfl) (.inr opk3h17) (.inr opk3h32)
theorem opk3h113 : DT.leaf.check (okKD Try.prog opkKn opkDer [3, 4, 5, 6] opkET 100000 60 7 (opkArgs true)) opk3k15n = true := check_leaf (by kernel_rfl)
def opk3t15 : DT := .less 1004 (17) opk3t16 .leaf
theorem opk3h15 : opk3t15.check (okKD Try.prog opkKn opkDer [3, 4, 5, 6] opkET 100000 60 7 (opkArgs true)) opk3k13n = true := check_less (Ky := opk3k15y) (Kn := opk3k15n) (i := ⟨1, 2000, []⟩) (by kernel_rfl) (by kernel_rfl) (by kernel_rfl) (.inr opk3h16) (.inr opk3h113)
def opk3t13 : DT := .less 1004 (1) .leaf opk3t15
theorem opk3h13 : opk3t13.check (okKD Try.prog opkKn opkDer [3, 4, 5, 6] opkET 100000 60 7 (opkArgs true)) opk3k12y = true := check_less (Ky := opk3k13y) (Kn := opk3k13n) (i := ⟨0, 2000, []⟩) (by kernel_rfl) (by kernel_rfl) (by kernel_rfl) (.inr opk3h14) (.inr opk3h15)
theorem opk3h114 : DT.leaf.check (okKD Try.prog opkKn opkDer [3, 4, 5, 6] opkET 100000 60 7 (opkArgs true)) opk3k12n = true := check_leaf (by kernel_rfl)
def opk3t12 : DT := .less 1003 (17) opk3t13 .leaf
theorem opk3h12 : opk3t12.check (okKD Try.prog opkKn opkDer [3, 4, 5, 6] opkET 100000 60 7 (opkArgs true)) opk3k10n = true := check_less (Ky := opk3k12y) (Kn := opk3k12n) (i := ⟨1, 2000, []⟩) (by kernel_rfl) (by kernel_rfl) (by kernel_rfl) (.inr opk3h13) (.inr opk3h114)
def opk3t10 : DT := .less 1003 (1) .leaf opk3t12
theorem opk3h10 : opk3t10.check (okKD Try.prog opkKn opkDer [3, 4, 5, 6] opkET 100000 60 7 (opkArgs true)) opk3k9y = true := check_less (Ky := opk3k10y) (Kn := opk3k10n) (i := ⟨0, 2000, []⟩) (by kernel_rfl) (by kernel_rfl) (by kernel_rfl) (.inr opk3h11) (.inr opk3h12)
theorem opk3h115 : DT.leaf.check (okKD Try.prog opkKn opkDer [3, 4, 5, 6] opkET 100000 60 7 (opkArgs true)) opk3k9n = true := check_leaf (by kernel_rfl)
def opk3t9 : DT := .less 2 (1099511627777) opk3t10 .leaf
theorem opk3h9 : opk3t9.check (okKD Try.prog opkKn opkDer [3, 4, 5, 6] opkET 100000 60 7 (opkArgs true)) opk3k7n = true := check_less (Ky := opk3k9y) (Kn := opk3k9n) (i := ⟨1, 9223372036854775807, []⟩) (by kernel_rfl) (by kernel_rfl) (by kernel_rfl) (.inr opk3h10) (.inr opk3h115)
def opk3t7 : DT := .less 2 (1) .leaf opk3t9
theorem opk3h7 : opk3t7.check (okKD Try.prog opkKn opkDer [3, 4, 5, 6] opkET 100000 60 7 (opkArgs true)) opk3k6y = true := check_less (Ky := opk3k7y) (Kn := opk3k7n) (i := ⟨-9223372036854775808, 9223372036854775807, []⟩) (by kernel_rfl) (by kernel_rfl) (by kernel_rfl) (.inr opk3h8) (.inr opk3h9)
theorem opk3h116 : DT.leaf.check (okKD Try.prog opkKn opkDer [3, 4, 5, 6] opkET 100000 60 7 (opkArgs true)) opk3k6n = true := check_leaf (by kernel_rfl)
def opk3t6 : DT := .less 1 (1048577) opk3t7 .leaf
theorem opk3h6 : opk3t6.check (okKD Try.prog opkKn opkDer [3, 4, 5, 6] opkET 100000 60 7 (opkArgs true)) opk3k4n = true := check_less (Ky := opk3k6y) (Kn := opk3k6n) (i := ⟨1, 9223372036854775807, []⟩) (by kernel_rfl) (by kernel_rfl) (by kernel_rfl) (.inr opk3h7) (.inr opk3h116)
def opk3t4 : DT := .less 1 (1) .leaf opk3t6
theorem opk3h4 : opk3t4.check (okKD Try.prog opkKn opkDer [3, 4, 5, 6] opkET 100000 60 7 (opkArgs true)) opk3k3y = true := check_less (Ky := opk3k4y) (Kn := opk3k4n) (i := ⟨-9223372036854775808, 9223372036854775807, []⟩) (by kernel_rfl) (by kernel_rfl) (by kernel_rfl) (.inr opk3h5) (.inr opk3h6)
theorem opk3h117 : DT.leaf.check (okKD Try.prog opkKn opkDer [3, 4, 5, 6] opkET 100000 60 7 (opkArgs true)) opk3k3n = true := check_leaf (by kernel_rfl)
def opk3t3 : DT := .less 1006 (2001) opk3t4 .leaf
theorem opk3h3 : opk3t3.check (okKD Try.prog opkKn opkDer [3, 4, 5, 6] opkET 100000 60 7 (opkArgs true)) opk3k2y = true := check_less (Ky := opk3k3y) (Kn := opk3k3n) (i := ⟨0, 9223372036854775807, []⟩) (by kernel_rfl) (by kernel_rfl) (by kernel_rfl) (.inr opk3h4) (.inr opk3h117)
theorem opk3h118 : DT.leaf.check (okKD Try.prog opkKn opkDer [3, 4, 5, 6] opkET 100000 60 7 (opkArgs true)) opk3k2n = true := check_leaf (by kernel_rfl)
def opk3t2 : DT := .less 1005 (2001) opk3t3 .leaf
theorem opk3h2 : opk3t2.check (okKD Try.prog opkKn opkDer [3, 4, 5, 6] opkET 100000 60 7 (opkArgs true)) opk3k1y = true := check_less (Ky := opk3k2y) (Kn := opk3k2n) (i := ⟨0, 9223372036854775807, []⟩) (by kernel_rfl) (by kernel_rfl) (by kernel_rfl) (.inr opk3h3) (.inr opk3h118)
theorem opk3h119 : DT.leaf.check (okKD Try.prog opkKn opkDer [3, 4, 5, 6] opkET 100000 60 7 (opkArgs true)) opk3k1n = true := check_leaf (by kernel_rfl)
def opk3t1 : DT := .less 1004 (2001) opk3t2 .leaf
theorem opk3h1 : opk3t1.check (okKD Try.prog opkKn opkDer [3, 4, 5, 6] opkET 100000 60 7 (opkArgs true)) opk3k0y = true := check_less (Ky := opk3k1y) (Kn := opk3k1n) (i := ⟨0, 9223372036854775807, []⟩) (by kernel_rfl) (by kernel_rfl) (by kernel_rfl) (.inr opk3h2) (.inr opk3h119)
theorem opk3h120 : DT.leaf.check (okKD Try.prog opkKn opkDer [3, 4, 5, 6] opkET 100000 60 7 (opkArgs true)) opk3k0n = true := check_leaf (by kernel_rfl)
def opk3t0 : DT := .less 1003 (2001) opk3t1 .leaf
theorem opk3h0 : opk3t0.check (okKD Try.prog opkKn opkDer [3, 4, 5, 6] opkET 100000 60 7 (opkArgs true)) opkKB3 = true := check_less (Ky := opk3k0y) (Kn := opk3k0n) (i := ⟨0, 9223372036854775807, []⟩) (by kernel_rfl) (by kernel_rfl) (by kernel_rfl) (.inr opk3h1) (.inr opk3h120)
theorem opkCheck3 : opk3t0.check (okKD Try.prog opkKn opkDer [3, 4, 5, 6] opkET 100000 60 7 (opkArgs true)) (opkKB ⟨1099511627777, 9223372036854775807, []⟩ opkBig) = true := opk3h0
end Go.Proofs.Ytliljfncbljfpaa
