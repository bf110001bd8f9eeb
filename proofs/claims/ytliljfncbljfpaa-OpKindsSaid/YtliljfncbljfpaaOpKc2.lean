/- OpKinds: tree 2. -/
import Derived.Test.YtliljfncbljfpaaOpKa
import Derived.ProofKit
namespace Go.Proofs.Ytliljfncbljfpaa
open Go.RowKit
set_option linter.unusedVariables false
set_option linter.unusedSimpArgs false
set_option maxRecDepth 100000

def opkKB2 : KB := opkKB ⟨-9223372036854775808, -1, []⟩ opkBig
def opk2k0y : KB := opkKB2.put 1003 ⟨0, 2000, []⟩
def opk2k0n : KB := opkKB2.put 1003 ⟨2001, 9223372036854775807, []⟩
def opk2k1y : KB := opk2k0y.put 1004 ⟨0, 2000, []⟩
def opk2k1n : KB := opk2k0y.put 1004 ⟨2001, 9223372036854775807, []⟩
def opk2k2y : KB := opk2k1y.put 1005 ⟨0, 2000, []⟩
def opk2k2n : KB := opk2k1y.put 1005 ⟨2001, 9223372036854775807, []⟩
def opk2k3y : KB := opk2k2y.put 1006 ⟨0, 2000, []⟩
def opk2k3n : KB := opk2k2y.put 1006 ⟨2001, 9223372036854775807, []⟩
def opk2k4y : KB := opk2k3y.put 1 ⟨-9223372036854775808, 0, []⟩
def opk2k4n : KB := opk2k3y.put 1 ⟨1, 9223372036854775807, []⟩
theorem opk2h5 : DT.leaf.check (okKD Try.prog opkKn opkDer [3, 4, 5, 6] opkET 100000 60 7 (opkArgs true)) opk2k4y = true := check_leaf (by kernel_rfl)
def opk2k6y : KB := opk2k4n.put 1 ⟨1, 1048576, []⟩
def opk2k6n : KB := opk2k4n.put 1 ⟨1048577, 9223372036854775807, []⟩
def opk2k7y : KB := opk2k6y.put 2 ⟨-9223372036854775808, 0, []⟩
def opk2k7n : KB := opk2k6y.put 2 ⟨1, 9223372036854775807, []⟩
theorem opk2h8 : DT.leaf.check (okKD Try.prog opkKn opkDer [3, 4, 5, 6] opkET 100000 60 7 (opkArgs true)) opk2k7y = true := check_leaf (by kernel_rfl)
def opk2k9y : KB := opk2k7n.put 2 ⟨1, 1099511627776, []⟩
def opk2k9n : KB := opk2k7n.put 2 ⟨1099511627777, 9223372036854775807, []⟩
def opk2k10y : KB := opk2k9y.put 1003 ⟨0, 0, []⟩
def opk2k10n : KB := opk2k9y.put 1003 ⟨1, 2000, []⟩
theorem opk2h11 : DT.leaf.check (okKD Try.prog opkKn opkDer [3, 4, 5, 6] opkET 100000 60 7 (opkArgs true)) opk2k10y = true := check_leaf (by kernel_rfl)
def opk2k12y : KB := opk2k10n.put 1003 ⟨1, 16, []⟩
def opk2k12n : KB := opk2k10n.put 1003 ⟨17, 2000, []⟩
def opk2k13y : KB := opk2k12y.put 1004 ⟨0, 0, []⟩
def opk2k13n : KB := opk2k12y.put 1004 ⟨1, 2000, []⟩
theorem opk2h14 : DT.leaf.check (okKD Try.prog opkKn opkDer [3, 4, 5, 6] opkET 100000 60 7 (opkArgs true)) opk2k13y = true := check_leaf (by kernel_rfl)
def opk2k15y : KB := opk2k13n.put 1004 ⟨1, 16, []⟩
def opk2k15n : KB := opk2k13n.put 1004 ⟨17, 2000, []⟩
def opk2k16y : KB := opk2k15y.put 0 ⟨1, 1, []⟩
def opk2k16n : KB := opk2k15y.put 0 ⟨-9223372036854775808, 9223372036854775807, [1]⟩
def opk2k17y : KB := opk2k16y.put 7 ⟨-9223372036854775808, -1, []⟩
def opk2k17n : KB := opk2k16y.put 7 ⟨0, 9223372036854775807, []⟩
theorem opk2h18 : DT.leaf.check (okKD Try.prog opkKn opkDer [3, 4, 5, 6] opkET 100000 60 7 (opkArgs true)) opk2k17y = true := check_leaf (by kernel_rfl)
def opk2k19y : KB := opk2k17n.put 7 ⟨0, 3, []⟩
def opk2k19n : KB := opk2k17n.put 7 ⟨4, 9223372036854775807, []⟩
def opk2k20y : KB := opk2k19y.put 8 ⟨-9223372036854775808, 0, []⟩
def opk2k20n : KB := opk2k19y.put 8 ⟨1, 9223372036854775807, []⟩
theorem opk2h21 : DT.leaf.check (okKD Try.prog opkKn opkDer [3, 4, 5, 6] opkET 100000 60 7 (opkArgs true)) opk2k20y = true := check_leaf (by kernel_rfl)
def opk2k22y : KB := opk2k20n.put 8 ⟨1, 1048576, []⟩
def opk2k22n : KB := opk2k20n.put 8 ⟨1048577, 9223372036854775807, []⟩
def opk2k23y : KB := opk2k22y.put 1005 ⟨0, 0, []⟩
def opk2k23n : KB := opk2k22y.put 1005 ⟨1, 2000, []⟩
def opk2k24y : KB := opk2k23y.put 1006 ⟨0, 0, []⟩
def opk2k24n : KB := opk2k23y.put 1006 ⟨1, 2000, []⟩
def opk2k25y : KB := opk2k24y.put 9 ⟨0, 0, []⟩
def opk2k25n : KB := opk2k24y.put 9 ⟨-9223372036854775808, 9223372036854775807, [0]⟩
theorem opk2h26 : DT.leaf.check (okKD Try.prog opkKn opkDer [3, 4, 5, 6] opkET 100000 60 7 (opkArgs true)) opk2k25y = true := check_leaf (by kernel_rfl)
theorem opk2h27 : DT.leaf.check (okKD Try.prog opkKn opkDer [3, 4, 5, 6] opkET 100000 60 7 (opkArgs true)) opk2k25n = true := check_leaf (by kernel_rfl)
def opk2t25 : DT := .same 9 (0) .leaf .leaf
theorem opk2h25 : opk2t25.check (okKD Try.prog opkKn opkDer [3, 4, 5, 6] opkET 100000 60 7 (opkArgs true)) opk2k24y = true := check_same (Ky := opk2k25y) (Kn := opk2k25n) (i := ⟨-9223372036854775808, 9223372036854775807, []⟩) (by kernel_rfl) (by kernel_rfl) (by kernel_rfl) (.inr opk2h26) (.inr opk2h27)
theorem opk2h28 : DT.leaf.check (okKD Try.prog opkKn opkDer [3, 4, 5, 6] opkET 100000 60 7 (opkArgs true)) opk2k24n = true := check_leaf (by kernel_rfl)
def opk2t24 : DT := .same 1006 (0) opk2t25 .leaf
theorem opk2h24 : opk2t24.check (okKD Try.prog opkKn opkDer [3, 4, 5, 6] opkET 100000 60 7 (opkArgs true)) opk2k23y = true := check_same (Ky := opk2k24y) (Kn := opk2k24n) (i := ⟨0, 2000, []⟩) (by kernel_rfl) (by kernel_rfl) (by kernel_rfl) (.inr opk2h25) (.inr opk2h28)
theorem opk2h29 : DT.leaf.check (okKD Try.prog opkKn opkDer [3, 4, 5, 6] opkET 100000 60 7 (opkArgs true)) opk2k23n = true := check_leaf (by kernel_rfl)
def opk2t23 : DT := .same 1005 (0) opk2t24 .leaf
theorem opk2h23 : opk2t23.check (okKD Try.prog opkKn opkDer [3, 4, 5, 6] opkET 100000 60 7 (opkArgs true)) opk2k22y = true := check_same (Ky := opk2k23y) (Kn := opk2k23n) (i := ⟨0, 2000, []⟩) (by kernel_rfl) (by kernel_rfl) (by kernel_rfl) (.inr opk2h24) (.inr opk2h29)
theorem opk2h30 : DT.leaf.check (okKD Try.prog opkKn opkDer [3, 4, 5, 6] opkET 100000 60 7 (opkArgs true)) opk2k22n = true := check_leaf (by kernel_rfl)
def opk2t22 : DT := .less 8 (1048577) opk2t23 .leaf
theorem opk2h22 : opk2t22.check (okKD Try.prog opkKn opkDer [3, 4, 5, 6] opkET 100000 60 7 (opkArgs true)) opk2k20n = true := check_less (Ky := opk2k22y) (Kn := opk2k22n) (i := ⟨1, 9223372036854775807, []⟩) (by kernel_rfl) (by kernel_rfl) (by kernel_rfl) (.inr opk2h23) (.inr opk2h30)
def opk2t20 : DT := .less 8 (1) .leaf opk2t22
theorem opk2h20 : opk2t20.check (okKD Try.prog opkKn opkDer [3, 4, 5, 6] opkET 100000 60 7 (opkArgs true)) opk2k19y = true := check_less (Ky := opk2k20y) (Kn := opk2k20n) (i := ⟨-9223372036854775808, 9223372036854775807, []⟩) (by kernel_rfl) (by kernel_rfl) (by kernel_rfl) (.inr opk2h21) (.inr opk2h22)
theorem opk2h31 : DT.leaf.check (okKD Try.prog opkKn opkDer [3, 4, 5, 6] opkET 100000 60 7 (opkArgs true)) opk2k19n = true := check_leaf (by kernel_rfl)
def opk2t19 : DT := .less 7 (4) opk2t20 .leaf
theorem opk2h19 : opk2t19.check (okKD Try.prog opkKn opkDer [3, 4, 5, 6] opkET 100000 60 7 (opkArgs true)) opk2k17n = true := check_less (Ky := opk2k19y) (Kn := opk2k19n) (i := ⟨0, 9223372036854775807, []⟩) (by kernel_rfl) (by kernel_rfl) (by kernel_rfl) (.inr opk2h20) (.inr opk2h31)
def opk2t17 : DT := .less 7 (0) .leaf opk2t19
theorem opk2h17 : opk2t17.check (okKD Try.prog opkKn opkDer [3, 4, 5, 6] opkET 100000 60 7 (opkArgs true)) opk2k16y = true := check_less (Ky := opk2k17y) (Kn := opk2k17n) (i := ⟨-9223372036854775808, 9223372036854775807, []⟩) (by kernel_rfl) (by kernel_rfl) (by kernel_rfl) (.inr opk2h18) (.inr opk2h19)
def opk2k32y : KB := opk2k16n.put 0 ⟨6, 6, [1]⟩
def opk2k32n : KB := opk2k16n.put 0 ⟨-9223372036854775808, 9223372036854775807, [6, 1]⟩
def opk2k33y : KB := opk2k32y.put 7 ⟨-9223372036854775808, -1, []⟩
def opk2k33n : KB := opk2k32y.put 7 ⟨0, 9223372036854775807, []⟩
theorem opk2h34 : DT.leaf.check (okKD Try.prog opkKn opkDer [3, 4, 5, 6] opkET 100000 60 7 (opkArgs true)) opk2k33y = true := check_leaf (by kernel_rfl)
def opk2k35y : KB := opk2k33n.put 7 ⟨0, 3, []⟩
def opk2k35n : KB := opk2k33n.put 7 ⟨4, 9223372036854775807, []⟩
def opk2k36y : KB := opk2k35y.put 8 ⟨-9223372036854775808, 0, []⟩
def opk2k36n : KB := opk2k35y.put 8 ⟨1, 9223372036854775807, []⟩
theorem opk2h37 : DT.leaf.check (okKD Try.prog opkKn opkDer [3, 4, 5, 6] opkET 100000 60 7 (opkArgs true)) opk2k36y = true := check_leaf (by kernel_rfl)
def opk2k38y : KB := opk2k36n.put 8 ⟨1, 1048576, []⟩
def opk2k38n : KB := opk2k36n.put 8 ⟨1048577, 9223372036854775807, []⟩
def opk2k39y : KB := opk2k38y.put 1005 ⟨0, 0, []⟩
def opk2k39n : KB := opk2k38y.put 1005 ⟨1, 2000, []⟩
def opk2k40y : KB := opk2k39y.put 1006 ⟨0, 0, []⟩
def opk2k40n : KB := opk2k39y.put 1006 ⟨1, 2000, []⟩
def opk2k41y : KB := opk2k40y.put 9 ⟨0, 0, []⟩
def opk2k41n : KB := opk2k40y.put 9 ⟨-9223372036854775808, 9223372036854775807, [0]⟩
theorem opk2h42 : DT.leaf.check (okKD Try.prog opkKn opkDer [3, 4, 5, 6] opkET 100000 60 7 (opkArgs true)) opk2k41y = true := check_leaf (by kernel_rfl)
theorem opk2h43 : DT.leaf.check (okKD Try.prog opkKn opkDer [3, 4, 5, 6] opkET 100000 60 7 (opkArgs true)) opk2k41n = true := check_leaf (by kernel_rfl)
def opk2t41 : DT := .same 9 (0) .leaf .leaf
theorem opk2h41 : opk2t41.check (okKD Try.prog opkKn opkDer [3, 4, 5, 6] opkET 100000 60 7 (opkArgs true)) opk2k40y = true := check_same (Ky := opk2k41y) (Kn := opk2k41n) (i := ⟨-9223372036854775808, 9223372036854775807, []⟩) (by kernel_rfl) (by kernel_rfl) (by kernel_rfl) (.inr opk2h42) (.inr opk2h43)
theorem opk2h44 : DT.leaf.check (okKD Try.prog opkKn opkDer [3, 4, 5, 6] opkET 100000 60 7 (opkArgs true)) opk2k40n = true := check_leaf (by kernel_rfl)
def opk2t40 : DT := .same 1006 (0) opk2t41 .leaf
theorem opk2h40 : opk2t40.check (okKD Try.prog opkKn opkDer [3, 4, 5, 6] opkET 100000 60 7 (opkArgs true)) opk2k39y = true := check_same (Ky := opk2k40y) (Kn := opk2k40n) (i := ⟨0, 2000, []⟩) (by kernel_rfl) (by kernel_rfl) (by kernel_rfl) (.inr opk2h41) (.inr opk2h44)
theorem opk2h45 : DT.leaf.check (okKD Try.prog opkKn opkDer [3, 4, 5, 6] opkET 100000 60 7 (opkArgs true)) opk2k39n = true := check_leaf (by kernel_rfl)
def opk2t39 : DT := .same 1005 (0) opk2t40 .leaf
theorem opk2h39 : opk2t39.check (okKD Try.prog opkKn opkDer [3, 4, 5, 6] opkET 100000 60 7 (opkArgs true)) opk2k38y = true := check_same (Ky := opk2k39y) (Kn := opk2k39n) (i := ⟨0, 2000, []⟩) (by kernel_rfl) (by kernel_rfl) (by kernel_rfl) (.inr opk2h40) (.inr opk2h45)
theorem opk2h46 : DT.leaf.check (okKD Try.prog opkKn opkDer [3, 4, 5, 6] opkET 100000 60 7 (opkArgs true)) opk2k38n = true := check_leaf (by kernel_rfl)
def opk2t38 : DT := .less 8 (1048577) opk2t39 .leaf
theorem opk2h38 : opk2t38.check (okKD Try.prog opkKn opkDer [3, 4, 5, 6] opkET 100000 60 7 (opkArgs true)) opk2k36n = true := check_less (Ky := opk2k38y) (Kn := opk2k38n) (i := ⟨1, 9223372036854775807, []⟩) (by kernel_rfl) (by kernel_rfl) (by kernel_rfl) (.inr opk2h39) (.inr opk2h46)
def opk2t36 : DT := .less 8 (1) .leaf opk2t38
theorem opk2h36 : opk2t36.check (okKD Try.prog opkKn opkDer [3, 4, 5, 6] opkET 100000 60 7 (opkArgs true)) opk2k35y = true := check_less (Ky := opk2k36y) (Kn := opk2k36n) (i := ⟨-9223372036854775808, 9223372036854775807, []⟩) (by kernel_rfl) (by kernel_rfl) (by kernel_rfl) (.inr opk2h37) (.inr opk2h38)
theorem opk2h47 : DT.leaf.check (okKD Try.prog opkKn opkDer [3, 4, 5, 6] opkET 100000 60 7 (opkArgs true)) opk2k35n = true := check_leaf (by kernel_rfl)
def opk2t35 : DT := .less 7 (4) opk2t36 .leaf
theorem opk2h35 : opk2t35.check (okKD Try.prog opkKn opkDer [3, 4, 5, 6] opkET 100000 60 7 (opkArgs true)) opk2k33n = true := check_less (Ky := opk2k35y) (Kn := opk2k35n) (i := ⟨0, 9223372036854775807, []⟩) (by kernel_rfl) (by kernel_rfl) (by kernel_rfl) (.inr opk2h36) (.inr opk2h47)
def opk2t33 : DT := .less 7 (0) .leaf opk2t35
theorem opk2h33 : opk2t33.check (okKD Try.prog opkKn opkDer [3, 4, 5, 6] opkET 100000 60 7 (opkArgs true)) opk2k32y = true := check_less (Ky := opk2k33y) (Kn := opk2k33n) (i := ⟨-9223372036854775808, 9223372036854775807, []⟩) (by kernel_rfl) (by kernel_rfl) (by kernel_rfl) (.inr opk2h34) (.inr opk2h35)
def opk2k48y : KB := opk2k32n.put 0 ⟨2, 2, [6, 1]⟩
def opk2k48n : KB := opk2k32n.put 0 ⟨-9223372036854775808, 9223372036854775807, [2, 6, 1]⟩
def opk2k49y : KB := opk2k48y.put 7 ⟨-9223372036854775808, -1, []⟩
def opk2k49n : KB := opk2k48y.put 7 ⟨0, 9223372036854775807, []⟩
theorem opk2h50 : DT.leaf.check (okKD Try.prog opkKn opkDer [3, 4, 5, 6] opkET 100000 60 7 (opkArgs true)) opk2k49y = true := check_leaf (by kernel_rfl)
def opk2k51y : KB := opk2k49n.put 7 ⟨0, 3, []⟩
def opk2k51n : KB := opk2k49n.put 7 ⟨4, 9223372036854775807, []⟩
def opk2k52y : KB := opk2k51y.put 8 ⟨-9223372036854775808, 0, []⟩
def opk2k52n : KB := opk2k51y.put 8 ⟨1, 9223372036854775807, []⟩
theorem opk2h53 : DT.leaf.check (okKD Try.prog opkKn opkDer [3, 4, 5, 6] opkET 100000 60 7 (opkArgs true)) opk2k52y = true := check_leaf (by kernel_rfl)
def opk2k54y : KB := opk2k52n.put 8 ⟨1, 1048576, []⟩
def opk2k54n : KB := opk2k52n.put 8 ⟨1048577, 9223372036854775807, []⟩
def opk2k55y : KB := opk2k54y.put 1005 ⟨0, 0, []⟩
def opk2k55n : KB := opk2k54y.put 1005 ⟨1, 2000, []⟩
theorem opk2h56 : DT.leaf.check (okKD Try.prog opkKn opkDer [3, 4, 5, 6] opkET 100000 60 7 (opkArgs true)) opk2k55y = true := check_leaf (by kernel_rfl)
def opk2k57y : KB := opk2k55n.put 1005 ⟨1, 16, []⟩
def opk2k57n : KB := opk2k55n.put 1005 ⟨17, 2000, []⟩
def opk2k58y : KB := opk2k57y.put 1006 ⟨0, 0, []⟩
def opk2k58n : KB := opk2k57y.put 1006 ⟨1, 2000, []⟩
theorem opk2h59 : DT.leaf.check (okKD Try.prog opkKn opkDer [3, 4, 5, 6] opkET 100000 60 7 (opkArgs true)) opk2k58y = true := check_leaf (by kernel_rfl)
def opk2k60y : KB := opk2k58n.put 1006 ⟨1, 16, []⟩
def opk2k60n : KB := opk2k58n.put 1006 ⟨17, 2000, []⟩
def opk2k61y : KB := opk2k60y.put 9 ⟨0, 0, []⟩
def opk2k61n : KB := opk2k60y.put 9 ⟨-9223372036854775808, 9223372036854775807, [0]⟩
theorem opk2h62 : DT.leaf.check (okKD Try.prog opkKn opkDer [3, 4, 5, 6] opkET 100000 60 7 (opkArgs true)) opk2k61y = true := check_leaf (by kernel_rfl)
theorem opk2h63 : DT.leaf.check (okKD Try.prog opkKn opkDer [3, 4, 5, 6] opkET 100000 60 7 (opkArgs true)) opk2k61n = true := check_leaf (by kernel_rfl)
def opk2t61 : DT := .same 9 (0) .leaf .leaf
theorem opk2h61 : opk2t61.check (okKD Try.prog opkKn opkDer [3, 4, 5, 6] opkET 100000 60 7 (opkArgs true)) opk2k60y = true := check_same (Ky := opk2k61y) (Kn := opk2k61n) (i := ⟨-9223372036854775808, 9223372036854775807, []⟩) (by kernel_rfl) (by kernel_rfl) (by kernel_rfl) (.inr opk2h62) (.inr opk2h63)
theorem opk2h64 : DT.leaf.check (okKD Try.prog opkKn opkDer [3, 4, 5, 6] opkET 100000 60 7 (opkArgs true)) opk2k60n = true := check_leaf (by kernel_rfl)
def opk2t60 : DT := .less 1006 (17) opk2t61 .leaf
theorem opk2h60 : opk2t60.check (okKD Try.prog opkKn opkDer [3, 4, 5, 6] opkET 100000 60 7 (opkArgs true)) opk2k58n = true := check_less (Ky := opk2k60y) (Kn := opk2k60n) (i := ⟨1, 2000, []⟩) (by kernel_rfl) (by kernel_rfl) (by kernel_rfl) (.inr opk2h61) (.inr opk2h64)
def opk2t58 : DT := .less 1006 (1) .leaf opk2t60
theorem opk2h58 : opk2t58.check (okKD Try.prog opkKn opkDer [3, 4, 5, 6] opkET 100000 60 7 (opkArgs true)) opk2k57y = true := check_less (Ky := opk2k58y) (Kn := opk2k58n) (i := ⟨0, 2000, []⟩) (by kernel_rfl) (by kernel_rfl) (by kernel_rfl) (.inr opk2h59) (.inr opk2h60)
theorem opk2h65 : DT.leaf.check (okKD Try.prog opkKn opkDer [3, 4, 5, 6] opkET 100000 60 7 (opkArgs true)) opk2k57n = true := check_leaf (by kernel_rfl)
def opk2t57 : DT := .less 1005 (17) opk2t58 .leaf
theorem opk2h57 : opk2t57.check (okKD Try.prog opkKn opkDer [3, 4, 5, 6] opkET 100000 60 7 (opkArgs true)) opk2k55n = true := check_less (Ky := opk2k57y) (Kn := opk2k57n) (i := ⟨1, 2000, []⟩) (by kernel_rfl) (by kernel_rfl) (by kernel_rfl) (.inr opk2h58) (.inr opk2h65)
def opk2t55 : DT := .less 1005 (1) .leaf opk2t57
theorem opk2h55 : opk2t55.check (okKD Try.prog opkKn opkDer [3, 4, 5, 6] opkET 100000 60 7 (opkArgs true)) opk2k54y = true := check_less (Ky := opk2k55y) (Kn := opk2k55n) (i := ⟨0, 2000, []⟩) (by kernel_rfl) (by kernel_rfl) (by kernel_rfl) (.inr opk2h56) (.inr opk2h57)
theorem opk2h66 : DT.leaf.check (okKD Try.prog opkKn opkDer [3, 4, 5, 6] opkET 100000 60 7 (opkArgs true)) opk2k54n = true := check_leaf (by kernel_rfl)
def opk2t54 : DT := .less 8 (1048577) opk2t55 .leaf
theorem opk2h54 : opk2t54.check (okKD Try.prog opkKn opkDer [3, 4, 5, 6] opkET 100000 60 7 (opkArgs true)) opk2k52n = true := check_less (Ky := opk2k54y) (Kn := opk2k54n) (i := ⟨1, 9223372036854775807, []⟩) (by kernel_rfl) (by kernel_rfl) (by kernel_rfl) (.inr opk2h55) (.inr opk2h66)
def opk2t52 : DT := .less 8 (1) .leaf opk2t54
theorem opk2h52 : opk2t52.check (okKD Try.prog opkKn opkDer [3, 4, 5, 6] opkET 100000 60 7 (opkArgs true)) opk2k51y = true := check_less (Ky := opk2k52y) (Kn := opk2k52n) (i := ⟨-9223372036854775808, 9223372036854775807, []⟩) (by kernel_rfl) (by kernel_rfl) (by kernel_rfl) (.inr opk2h53) (.inr opk2h54)
theorem opk2h67 : DT.leaf.check (okKD Try.prog opkKn opkDer [3, 4, 5, 6] opkET 100000 60 7 (opkArgs true)) opk2k51n = true := check_leaf (by kernel_rfl)
def opk2t51 : DT := .less 7 (4) opk2t52 .leaf
theorem opk2h51 : opk2t51.check (okKD Try.prog opkKn opkDer [3, 4, 5, 6] opkET 100000 60 7 (opkArgs true)) opk2k49n = true := check_less (Ky := opk2k51y) (Kn := opk2k51n) (i := ⟨0, 9223372036854775807, []⟩) (by kernel_rfl) (by kernel_rfl) (by kernel_rfl) (.inr opk2h52) (.inr opk2h67)
def opk2t49 : DT := .less 7 (0) .leaf opk2t51
theorem opk2h49 : opk2t49.check (okKD Try.prog opkKn opkDer [3, 4, 5, 6] opkET 100000 60 7 (opkArgs true)) opk2k48y = true := check_less (Ky := opk2k49y) (Kn := opk2k49n) (i := ⟨-9223372036854775808, 9223372036854775807, []⟩) (by kernel_rfl) (by kernel_rfl) (by kernel_rfl) (.inr opk2h50) (.inr opk2h51)
def opk2k68y : KB := opk2k48n.put 0 ⟨3, 3, [2, 6, 1]⟩
def opk2k68n : KB := opk2k48n.put 0 ⟨-9223372036854775808, 9223372036854775807, [3, 2, 6, 1]⟩
def opk2k69y : KB := opk2k68y.put 7 ⟨-9223372036854775808, 0, []⟩
def opk2k69n : KB := opk2k68y.put 7 ⟨1, 9223372036854775807, []⟩
theorem opk2h70 : DT.leaf.check (okKD Try.prog opkKn opkDer [3, 4, 5, 6] opkET 100000 60 7 (opkArgs true)) opk2k69y = true := check_leaf (by kernel_rfl)
def opk2k71y : KB := opk2k69n.put 7 ⟨1, 3, []⟩
def opk2k71n : KB := opk2k69n.put 7 ⟨4, 9223372036854775807, []⟩
def opk2k72y : KB := opk2k71y.put 8 ⟨-9223372036854775808, 0, []⟩
def opk2k72n : KB := opk2k71y.put 8 ⟨1, 9223372036854775807, []⟩
theorem opk2h73 : DT.leaf.check (okKD Try.prog opkKn opkDer [3, 4, 5, 6] opkET 100000 60 7 (opkArgs true)) opk2k72y = true := check_leaf (by kernel_rfl)
def opk2k74y : KB := opk2k72n.put 8 ⟨1, 1048576, []⟩
def opk2k74n : KB := opk2k72n.put 8 ⟨1048577, 9223372036854775807, []⟩
def opk2k75y : KB := opk2k74y.put 9 ⟨-9223372036854775808, 0, []⟩
def opk2k75n : KB := opk2k74y.put 9 ⟨1, 9223372036854775807, []⟩
theorem opk2h76 : DT.leaf.check (okKD Try.prog opkKn opkDer [3, 4, 5, 6] opkET 100000 60 7 (opkArgs true)) opk2k75y = true := check_leaf (by kernel_rfl)
def opk2k77y : KB := opk2k75n.put 9 ⟨1, 1024, []⟩
def opk2k77n : KB := opk2k75n.put 9 ⟨1025, 9223372036854775807, []⟩
def opk2k78y : KB := opk2k77y.put 1005 ⟨0, 0, []⟩
def opk2k78n : KB := opk2k77y.put 1005 ⟨1, 2000, []⟩
def opk2k79y : KB := opk2k78y.put 1006 ⟨0, 0, []⟩
def opk2k79n : KB := opk2k78y.put 1006 ⟨1, 2000, []⟩
theorem opk2h80 : DT.leaf.check (okKD Try.prog opkKn opkDer [3, 4, 5, 6] opkET 100000 60 7 (opkArgs true)) opk2k79y = true := check_leaf (by kernel_rfl)
theorem opk2h81 : DT.leaf.check (okKD Try.prog opkKn opkDer [3, 4, 5, 6] opkET 100000 60 7 (opkArgs true)) opk2k79n = true := check_leaf (by kernel_rfl)
def opk2t79 : DT := .same 1006 (0) .leaf .leaf
theorem opk2h79 : opk2t79.check (okKD Try.prog opkKn opkDer [3, 4, 5, 6] opkET 100000 60 7 (opkArgs true)) opk2k78y = true := check_same (Ky := opk2k79y) (Kn := opk2k79n) (i := ⟨0, 2000, []⟩) (by kernel_rfl) (by kernel_rfl) (by kernel_rfl) (.inr opk2h80) (.inr opk2h81)
theorem opk2h82 : DT.leaf.check (okKD Try.prog opkKn opkDer [3, 4, 5, 6] opkET 100000 60 7 (opkArgs true)) opk2k78n = true := check_leaf (by kernel_rfl)
def opk2t78 : DT := .same 1005 (0) opk2t79 .leaf
theorem opk2h78 : opk2t78.check (okKD Try.prog opkKn opkDer [3, 4, 5, 6] opkET 100000 60 7 (opkArgs true)) opk2k77y = true := check_same (Ky := opk2k78y) (Kn := opk2k78n) (i := ⟨0, 2000, []⟩) (by kernel_rfl) (by kernel_rfl) (by kernel_rfl) (.inr opk2h79) (.inr opk2h82)
theorem opk2h83 : DT.leaf.check (okKD Try.prog opkKn opkDer [3, 4, 5, 6] opkET 100000 60 7 (opkArgs true)) opk2k77n = true := check_leaf (by kernel_rfl)
def opk2t77 : DT := .less 9 (1025) opk2t78 .leaf
theorem opk2h77 : opk2t77.check (okKD Try.prog opkKn opkDer [3, 4, 5, 6] opkET 100000 60 7 (opkArgs true)) opk2k75n = true := check_less (Ky := opk2k77y) (Kn := opk2k77n) (i := ⟨1, 9223372036854775807, []⟩) (by kernel_rfl) (by kernel_rfl) (by kernel_rfl) (.inr opk2h78) (.inr opk2h83)
def opk2t75 : DT := .less 9 (1) .leaf opk2t77
theorem opk2h75 : opk2t75.check (okKD Try.prog opkKn opkDer [3, 4, 5, 6] opkET 100000 60 7 (opkArgs true)) opk2k74y = true := check_less (Ky := opk2k75y) (Kn := opk2k75n) (i := ⟨-9223372036854775808, 9223372036854775807, []⟩) (by kernel_rfl) (by kernel_rfl) (by kernel_rfl) (.inr opk2h76) (.inr opk2h77)
theorem opk2h84 : DT.leaf.check (okKD Try.prog opkKn opkDer [3, 4, 5, 6] opkET 100000 60 7 (opkArgs true)) opk2k74n = true := check_leaf (by kernel_rfl)
def opk2t74 : DT := .less 8 (1048577) opk2t75 .leaf
theorem opk2h74 : opk2t74.check (okKD Try.prog opkKn opkDer [3, 4, 5, 6] opkET 100000 60 7 (opkArgs true)) opk2k72n = true := check_less (Ky := opk2k74y) (Kn := opk2k74n) (i := ⟨1, 9223372036854775807, []⟩) (by kernel_rfl) (by kernel_rfl) (by kernel_rfl) (.inr opk2h75) (.inr opk2h84)
def opk2t72 : DT := .less 8 (1) .leaf opk2t74
theorem opk2h72 : opk2t72.check (okKD Try.prog opkKn opkDer [3, 4, 5, 6] opkET 100000 60 7 (opkArgs true)) opk2k71y = true := check_less (Ky := opk2k72y) (Kn := opk2k72n) (i := ⟨-9223372036854775808, 9223372036854775807, []⟩) (by kernel_rfl) (by kernel_rfl) (by kernel_rfl) (.inr opk2h73) (.inr opk2h74)
theorem opk2h85 : DT.leaf.check (okKD Try.prog opkKn opkDer [3, 4, 5, 6] opkET 100000 60 7 (opkArgs true)) opk2k71n = true := check_leaf (by kernel_rfl)
def opk2t71 : DT := .less 7 (4) opk2t72 .leaf
theorem opk2h71 : opk2t71.check (okKD Try.prog opkKn opkDer [3, 4, 5, 6] opkET 100000 60 7 (opkArgs true)) opk2k69n = true := check_less (Ky := opk2k71y) (Kn := opk2k71n) (i := ⟨1, 9223372036854775807, []⟩) (by kernel_rfl) (by kernel_rfl) (by kernel_rfl) (.inr opk2h72) (.inr opk2h85)
def opk2t69 : DT := .less 7 (1) .leaf opk2t71
theorem opk2h69 : opk2t69.check (okKD Try.prog opkKn opkDer [3, 4, 5, 6] opkET 100000 60 7 (opkArgs true)) opk2k68y = true := check_less (Ky := opk2k69y) (Kn := opk2k69n) (i := ⟨-9223372036854775808, 9223372036854775807, []⟩) (by kernel_rfl) (by kernel_rfl) (by kernel_rfl) (.inr opk2h70) (.inr opk2h71)
def opk2k86y : KB := opk2k68n.put 0 ⟨4, 4, [3, 2, 6, 1]⟩
def opk2k86n : KB := opk2k68n.put 0 ⟨-9223372036854775808, 9223372036854775807, [4, 3, 2, 6, 1]⟩
theorem opk2h87 : DT.leaf.check (okKD Try.prog opkKn opkDer [3, 4, 5, 6] opkET 100000 60 7 (opkArgs true)) opk2k86y = true := check_leaf (by kernel_rfl)
def opk2k88y : KB := opk2k86n.put 0 ⟨5, 5, [4, 3, 2, 6, 1]⟩
def opk2k88n : KB := opk2k86n.put 0 ⟨-9223372036854775808, 9223372036854775807, [5, 4, 3, 2, 6, 1]⟩
def opk2k89y : KB := opk2k88y.put 1005 ⟨0, 0, []⟩
def opk2k89n : KB := opk2k88y.put 1005 ⟨1, 2000, []⟩
def opk2k90y : KB := opk2k89y.put 1006 ⟨0, 0, []⟩
def opk2k90n : KB := opk2k89y.put 1006 ⟨1, 2000, []⟩
def opk2k91y : KB := opk2k90y.put 7 ⟨0, 0, []⟩
def opk2k91n : KB := opk2k90y.put 7 ⟨-9223372036854775808, 9223372036854775807, [0]⟩
def opk2k92y : KB := opk2k91y.put 8 ⟨0, 0, []⟩
def opk2k92n : KB := opk2k91y.put 8 ⟨-9223372036854775808, 9223372036854775807, [0]⟩
def opk2k93y : KB := opk2k92y.put 9 ⟨0, 0, []⟩
def opk2k93n : KB := opk2k92y.put 9 ⟨-9223372036854775808, 9223372036854775807, [0]⟩
theorem opk2h94 : DT.leaf.check (okKD Try.prog opkKn opkDer [3, 4, 5, 6] opkET 100000 60 7 (opkArgs true)) opk2k93y = true := check_leaf (by kernel_rfl)
theorem opk2h95 : DT.leaf.check (okKD Try.prog opkKn opkDer [3, 4, 5, 6] opkET 100000 60 7 (opkArgs true)) opk2k93n = true := check_leaf (by kernel_rfl)
def opk2t93 : DT := .same 9 (0) .leaf .leaf
theorem opk2h93 : opk2t93.check (okKD Try.prog opkKn opkDer [3, 4, 5, 6] opkET 100000 60 7 (opkArgs true)) opk2k92y = true := check_same (Ky := opk2k93y) (Kn := opk2k93n) (i := ⟨-9223372036854775808, 9223372036854775807, []⟩) (by kernel_rfl) (by kernel_rfl) (by kernel_rfl) (.inr opk2h94) (.inr opk2h95)
theorem opk2h96 : DT.leaf.check (okKD Try.prog opkKn opkDer [3, 4, 5, 6] opkET 100000 60 7 (opkArgs true)) opk2k92n = true := check_leaf (by kernel_rfl)
def opk2t92 : DT := .same 8 (0) opk2t93 .leaf
theorem opk2h92 : opk2t92.check (okKD Try.prog opkKn opkDer [3, 4, 5, 6] opkET 100000 60 7 (opkArgs true)) opk2k91y = true := check_same (Ky := opk2k92y) (Kn := opk2k92n) (i := ⟨-9223372036854775808, 9223372036854775807, []⟩) (by kernel_rfl) (by kernel_rfl) (by kernel_rfl) (.inr opk2h93) (.inr opk2h96)
theorem opk2h97 : DT.leaf.check (okKD Try.prog opkKn opkDer [3, 4, 5, 6] opkET 100000 60 7 (opkArgs true)) opk2k91n = true := check_leaf (by kernel_rfl)
def opk2t91 : DT := .same 7 (0) opk2t92 .leaf
theorem opk2h91 : opk2t91.check (okKD Try.prog opkKn opkDer [3, 4, 5, 6] opkET 100000 60 7 (opkArgs true)) opk2k90y = true := check_same (Ky := opk2k91y) (Kn := opk2k91n) (i := ⟨-9223372036854775808, 9223372036854775807, []⟩) (by kernel_rfl) (by kernel_rfl) (by kernel_rfl) (.inr opk2h92) (.inr opk2h97)
theorem opk2h98 : DT.leaf.check (okKD Try.prog opkKn opkDer [3, 4, 5, 6] opkET 100000 60 7 (opkArgs true)) opk2k90n = true := check_leaf (by kernel_rfl)
def opk2t90 : DT := .same 1006 (0) opk2t91 .leaf
theorem opk2h90 : opk2t90.check (okKD Try.prog opkKn opkDer [3, 4, 5, 6] opkET 100000 60 7 (opkArgs true)) opk2k89y = true := check_same (Ky := opk2k90y) (Kn := opk2k90n) (i := ⟨0, 2000, []⟩) (by kernel_rfl) (by kernel_rfl) (by kernel_rfl) (.inr opk2h91) (.inr opk2h98)
theorem opk2h99 : DT.leaf.check (okKD Try.prog opkKn opkDer [3, 4, 5, 6] opkET 100000 60 7 (opkArgs true)) opk2k89n = true := check_leaf (by kernel_rfl)
def opk2t89 : DT := .same 1005 (0) opk2t90 .leaf
theorem opk2h89 : opk2t89.check (okKD Try.prog opkKn opkDer [3, 4, 5, 6] opkET 100000 60 7 (opkArgs true)) opk2k88y = true := check_same (Ky := opk2k89y) (Kn := opk2k89n) (i := ⟨0, 2000, []⟩) (by kernel_rfl) (by kernel_rfl) (by kernel_rfl) (.inr opk2h90) (.inr opk2h99)
def opk2k100y : KB := opk2k88n.put 0 ⟨7, 7, [5, 4, 3, 2, 6, 1]⟩
def opk2k100n : KB := opk2k88n.put 0 ⟨-9223372036854775808, 9223372036854775807, [7, 5, 4, 3, 2, 6, 1]⟩
def opk2k101y : KB := opk2k100y.put 1005 ⟨0, 0, []⟩
def opk2k101n : KB := opk2k100y.put 1005 ⟨1, 2000, []⟩
def opk2k102y : KB := opk2k101y.put 1006 ⟨0, 0, []⟩
def opk2k102n : KB := opk2k101y.put 1006 ⟨1, 2000, []⟩
def opk2k103y : KB := opk2k102y.put 7 ⟨0, 0, []⟩
def opk2k103n : KB := opk2k102y.put 7 ⟨-9223372036854775808, 9223372036854775807, [0]⟩
def opk2k104y : KB := opk2k103y.put 8 ⟨0, 0, []⟩
def opk2k104n : KB := opk2k103y.put 8 ⟨-9223372036854775808, 9223372036854775807, [0]⟩
def opk2k105y : KB := opk2k104y.put 9 ⟨0, 0, []⟩
def opk2k105n : KB := opk2k104y.put 9 ⟨-9223372036854775808, 9223372036854775807, [0]⟩
theorem opk2h106 : DT.leaf.check (okKD Try.prog opkKn opkDer [3, 4, 5, 6] opkET 100000 60 7 (opkArgs true)) opk2k105y = true := check_leaf (by kernel_rfl)
theorem opk2h107 : DT.leaf.check (okKD Try.prog opkKn opkDer [3, 4, 5, 6] opkET 100000 60 7 (opkArgs true)) opk2k105n = true := check_leaf (by kernel_rfl)
def opk2t105 : DT := .same 9 (0) .leaf .leaf
theorem opk2h105 : opk2t105.check (okKD Try.prog opkKn opkDer [3, 4, 5, 6] opkET 100000 60 7 (opkArgs true)) opk2k104y = true := check_same (Ky := opk2k105y) (Kn := opk2k105n) (i := ⟨-9223372036854775808, 9223372036854775807, []⟩) (by kernel_rfl) (by kernel_rfl) (by kernel_rfl) (.inr opk2h106) (.inr opk2h107)
theorem opk2h108 : DT.leaf.check (okKD Try.prog opkKn opkDer [3, 4, 5, 6] opkET 100000 60 7 (opkArgs true)) opk2k104n = true := check_leaf (by kernel_rfl)
def opk2t104 : DT := .same 8 (0) opk2t105 .leaf
theorem opk2h104 : opk2t104.check (okKD Try.prog opkKn opkDer [3, 4, 5, 6] opkET 100000 60 7 (opkArgs true)) opk2k103y = true := check_same (Ky := opk2k104y) (Kn := opk2k104n) (i := ⟨-9223372036854775808, 9223372036854775807, []⟩) (by kernel_rfl) (by kernel_rfl) (by kernel_rfl) (.inr opk2h105) (.inr opk2h108)
theorem opk2h109 : DT.leaf.check (okKD Try.prog opkKn opkDer [3, 4, 5, 6] opkET 100000 60 7 (opkArgs true)) opk2k103n = true := check_leaf (by kernel_rfl)
def opk2t103 : DT := .same 7 (0) opk2t104 .leaf
theorem opk2h103 : opk2t103.check (okKD Try.prog opkKn opkDer [3, 4, 5, 6] opkET 100000 60 7 (opkArgs true)) opk2k102y = true := check_same (Ky := opk2k103y) (Kn := opk2k103n) (i := ⟨-9223372036854775808, 9223372036854775807, []⟩) (by kernel_rfl) (by kernel_rfl) (by kernel_rfl) (.inr opk2h104) (.inr opk2h109)
theorem opk2h110 : DT.leaf.check (okKD Try.prog opkKn opkDer [3, 4, 5, 6] opkET 100000 60 7 (opkArgs true)) opk2k102n = true := check_leaf (by kernel_rfl)
def opk2t102 : DT := .same 1006 (0) opk2t103 .leaf
theorem opk2h102 : opk2t102.check (okKD Try.prog opkKn opkDer [3, 4, 5, 6] opkET 100000 60 7 (opkArgs true)) opk2k101y = true := check_same (Ky := opk2k102y) (Kn := opk2k102n) (i := ⟨0, 2000, []⟩) (by kernel_rfl) (by kernel_rfl) (by kernel_rfl) (.inr opk2h103) (.inr opk2h110)
theorem opk2h111 : DT.leaf.check (okKD Try.prog opkKn opkDer [3, 4, 5, 6] opkET 100000 60 7 (opkArgs true)) opk2k101n = true := check_leaf (by kernel_rfl)
def opk2t101 : DT := .same 1005 (0) opk2t102 .leaf
theorem opk2h101 : opk2t101.check (okKD Try.prog opkKn opkDer [3, 4, 5, 6] opkET 100000 60 7 (opkArgs true)) opk2k100y = true := check_same (Ky := opk2k101y) (Kn := opk2k101n) (i := ⟨0, 2000, []⟩) (by kernel_rfl) (by kernel_rfl) (by kernel_rfl) (.inr opk2h102) (.inr opk2h111)
theorem opk2h112 : DT.leaf.check (okKD Try.prog opkKn opkDer [3, 4, 5, 6] opkET 100000 60 7 (opkArgs true)) opk2k100n = true := check_leaf (by kernel_rfl)
def opk2t100 : DT := .same 0 (7) opk2t101 .leaf
theorem opk2h100 : opk2t100.check (okKD Try.prog opkKn opkDer [3, 4, 5, 6] opkET 100000 60 7 (opkArgs true)) opk2k88n = true := check_same (Ky := opk2k100y) (Kn := opk2k100n) (i := ⟨-9223372036854775808, 9223372036854775807, [5, 4, 3, 2, 6, 1]⟩) (by kernel_rfl) (by kernel_rfl) (by kernel_rfl) (.inr opk2h101) (.inr opk2h112)
def opk2t88 : DT := .same 0 (5) opk2t89 opk2t100
theorem opk2h88 : opk2t88.check (okKD Try.prog opkKn opkDer [3, 4, 5, 6] opkET 100000 60 7 (opkArgs true)) opk2k86n = true := check_same (Ky := opk2k88y) (Kn := opk2k88n) (i := ⟨-9223372036854775808, 9223372036854775807, [4, 3, 2, 6, 1]⟩) (by kernel_rfl) (by kernel_rfl) (by kernel_rfl) (.inr opk2h89) (.inr opk2h100)
def opk2t86 : DT := .same 0 (4) .leaf opk2t88
theorem opk2h86 : opk2t86.check (okKD Try.prog opkKn opkDer [3, 4, 5, 6] opkET 100000 60 7 (opkArgs true)) opk2k68n = true := check_same (Ky := opk2k86y) (Kn := opk2k86n) (i := ⟨-9223372036854775808, 9223372036854775807, [3, 2, 6, 1]⟩) (by kernel_rfl) (by kernel_rfl) (by kernel_rfl) (.inr opk2h87) (.inr opk2h88)
def opk2t68 : DT := .same 0 (3) opk2t69 opk2t86
theorem opk2h68 : opk2t68.check (okKD Try.prog opkKn opkDer [3, 4, 5, 6] opkET 100000 60 7 (opkArgs true)) opk2k48n = true := check_same (Ky := opk2k68y) (Kn := opk2k68n) (i := ⟨-9223372036854775808, 9223372036854775807, [2, 6, 1]⟩) (by kernel_rfl) (by kernel_rfl) (by kernel_rfl) (.inr opk2h69) (.inr opk2h86)
def opk2t48 : DT := .same 0 (2) opk2t49 opk2t68
theorem opk2h48 : opk2t48.check (okKD Try.prog opkKn opkDer [3, 4, 5, 6] opkET 100000 60 7 (opkArgs true)) opk2k32n = true := check_same (Ky := opk2k48y) (Kn := opk2k48n) (i := ⟨-9223372036854775808, 9223372036854775807, [6, 1]⟩) (by kernel_rfl) (by kernel_rfl) (by kernel_rfl) (.inr opk2h49) (.inr opk2h68)
def opk2t32 : DT := .same 0 (6) opk2t33 opk2t48
theorem opk2h32 : opk2t32.check (okKD Try.prog opkKn opkDer [3, 4, 5, 6] opkET 100000 60 7 (opkArgs true)) opk2k16n = true := check_same (Ky := opk2k32y) (Kn := opk2k32n) (i := ⟨-9223372036854775808, 9223372036854775807, [1]⟩) (by kernel_rfl) (by kernel_rfl) (by kernel_rfl) (.inr opk2h33) (.inr opk2h48)
def opk2t16 : DT := .same 0 (1) opk2t17 opk2t32
theorem opk2h16 : opk2t16.check (okKD Try.prog opkKn opkDer [3, 4, 5, 6] opkET 100000 60 7 (opkArgs true)) opk2k15y = true := check_same (Ky := opk2k16y) (Kn := opk2k16n) (i := ⟨-9223372036854775808, 9223372036854775807, []⟩) (by kernel_rfl) (by kernel_rfl) (by kernel_rfl) (.inr opk2h17) (.inr opk2h32)
theorem opk2h113 : DT.leaf.check (okKD Try.prog opkKn opkDer [3, 4, 5, 6] opkET 100000 60 7 (opkArgs true)) opk2k15n = true := check_leaf (by kernel_rfl)
def opk2t15 : DT := .less 1004 (17) opk2t16 .leaf
theorem opk2h15 : opk2t15.check (okKD Try.prog opkKn opkDer [3, 4, 5, 6] opkET 100000 60 7 (opkArgs true)) opk2k13n = true := check_less (Ky := opk2k15y) (Kn := opk2k15n) (i := ⟨1, 2000, []⟩) (by kernel_rfl) (by kernel_rfl) (by kernel_rfl) (.inr opk2h16) (.inr opk2h113)
def opk2t13 : DT := .less 1004 (1) .leaf opk2t15
theorem opk2h13 : opk2t13.check (okKD Try.prog opkKn opkDer [3, 4, 5, 6] opkET 100000 60 7 (opkArgs true)) opk2k12y = true := check_less (Ky := opk2k13y) (Kn := opk2k13n) (i := ⟨0, 2000, []⟩) (by kernel_rfl) (by kernel_rfl) (by kernel_rfl) (.inr opk2h14) (.inr opk2h15)
theorem opk2h114 : DT.leaf.check (okKD Try.prog opkKn opkDer [3, 4, 5, 6] opkET 100000 60 7 (opkArgs true)) opk2k12n = true := check_leaf (by kernel_rfl)
def opk2t12 : DT := .less 1003 (17) opk2t13 .leaf
theorem opk2h12 : opk2t12.check (okKD Try.prog opkKn opkDer [3, 4, 5, 6] opkET 100000 60 7 (opkArgs true)) opk2k10n = true := check_less (Ky := opk2k12y) (Kn := opk2k12n) (i := ⟨1, 2000, []⟩) (by kernel_rfl) (by kernel_rfl) (by kernel_rfl) (.inr opk2h13) (.inr opk2h114)
def opk2t10 : DT := .less 1003 (1) .leaf opk2t12
theorem opk2h10 : opk2t10.check (okKD Try.prog opkKn opkDer [3, 4, 5, 6] opkET 100000 60 7 (opkArgs true)) opk2k9y = true := check_less (Ky := opk2k10y) (Kn := opk2k10n) (i := ⟨0, 2000, []⟩) (by kernel_rfl) (by kernel_rfl) (by kernel_rfl) (.inr opk2h11) (.inr opk2h12)
theorem opk2h115 : DT.leaf.check (okKD Try.prog opkKn opkDer [3, 4, 5, 6] opkET 100000 60 7 (opkArgs true)) opk2k9n = true := check_leaf (by kernel_rfl)
def opk2t9 : DT := .less 2 (1099511627777) opk2t10 .leaf
theorem opk2h9 : opk2t9.check (okKD Try.prog opkKn opkDer [3, 4, 5, 6] opkET 100000 60 7 (opkArgs true)) opk2k7n = true := check_less (Ky := opk2k9y) (Kn := opk2k9n) (i := ⟨1, 9223372036854775807, []⟩) (by kernel_rfl) (by kernel_rfl) (by kernel_rfl) (.inr opk2h10) (.inr opk2h115)
def opk2t7 : DT := .less 2 (1) .leaf opk2t9
theorem opk2h7 : opk2t7.check (okKD Try.prog opkKn opkDer [3, 4, 5, 6] opkET 100000 60 7 (opkArgs true)) opk2k6y = true := check_less (Ky := opk2k7y) (Kn := opk2k7n) (i := ⟨-9223372036854775808, 9223372036854775807, []⟩) (by kernel_rfl) (by kernel_rfl) (by kernel_rfl) (.inr opk2h8) (.inr opk2h9)
theorem opk2h116 : DT.leaf.check (okKD Try.prog opkKn opkDer [3, 4, 5, 6] opkET 100000 60 7 (opkArgs true)) opk2k6n = true := check_leaf (by kernel_rfl)
def opk2t6 : DT := .less 1 (1048577) opk2t7 .leaf
theorem opk2h6 : opk2t6.check (okKD Try.prog opkKn opkDer [3, 4, 5, 6] opkET 100000 60 7 (opkArgs true)) opk2k4n = true := check_less (Ky := opk2k6y) (Kn := opk2k6n) (i := ⟨1, 9223372036854775807, []⟩) (by kernel_rfl) (by kernel_rfl) (by kernel_rfl) (.inr opk2h7) (.inr opk2h116)
def opk2t4 : DT := .less 1 (1) .leaf opk2t6
theorem opk2h4 : opk2t4.check (okKD Try.prog opkKn opkDer [3, 4, 5, 6] opkET 100000 60 7 (opkArgs true)) opk2k3y = true := check_less (Ky := opk2k4y) (Kn := opk2k4n) (i := ⟨-9223372036854775808, 9223372036854775807, []⟩) (by kernel_rfl) (by kernel_rfl) (by kernel_rfl) (.inr opk2h5) (.inr opk2h6)
theorem opk2h117 : DT.leaf.check (okKD Try.prog opkKn opkDer [3, 4, 5, 6] opkET 100000 60 7 (opkArgs true)) opk2k3n = true := check_leaf (by kernel_rfl)
def opk2t3 : DT := .less 1006 (2001) opk2t4 .leaf
theorem opk2h3 : opk2t3.check (okKD Try.prog opkKn opkDer [3, 4, 5, 6] opkET 100000 60 7 (opkArgs true)) opk2k2y = true := check_less (Ky := opk2k3y) (Kn := opk2k3n) (i := ⟨0, 9223372036854775807, []⟩) (by kernel_rfl) (by kernel_rfl) (by kernel_rfl) (.inr opk2h4) (.inr opk2h117)
theorem opk2h118 : DT.leaf.check (okKD Try.prog opkKn opkDer [3, 4, 5, 6] opkET 100000 60 7 (opkArgs true)) opk2k2n = true := check_leaf (by kernel_rfl)
def opk2t2 : DT := .less 1005 (2001) opk2t3 .leaf
theorem opk2h2 : opk2t2.check (okKD Try.prog opkKn opkDer [3, 4, 5, 6] opkET 100000 60 7 (opkArgs true)) opk2k1y = true := check_less (Ky := opk2k2y) (Kn := opk2k2n) (i := ⟨0, 9223372036854775807, []⟩) (by kernel_rfl) (by kernel_rfl) (by kernel_rfl) (.inr opk2h3) (.inr opk2h118)
theorem opk2h119 : DT.leaf.check (okKD Try.prog opkKn opkDer [3, 4, 5, 6] opkET 100000 60 7 (opkArgs true)) opk2k1n = true := check_leaf (by kernel_rfl)
def opk2t1 : DT := .less 1004 (2001) opk2t2 .leaf
theorem opk2h1 : opk2t1.check (okKD Try.prog opkKn opkDer [3, 4, 5, 6] opkET 100000 60 7 (opkArgs true)) opk2k0y = true := check_less (Ky := opk2k1y) (Kn := opk2k1n) (i := ⟨0, 9223372036854775807, []⟩) (by kernel_rfl) (by kernel_rfl) (by kernel_rfl) (.inr opk2h2) (.inr opk2h119)
theorem opk2h120 : DT.leaf.check (okKD Try.prog opkKn opkDer [3, 4, 5, 6] opkET 100000 60 7 (opkArgs true)) opk2k0n = true := check_leaf (by kernel_rfl)
def opk2t0 : DT := .less 1003 (2001) opk2t1 .leaf
theorem opk2h0 : opk2t0.check (okKD Try.prog opkKn opkDer [3, 4, 5, 6] opkET 100000 60 7 (opkArgs true)) opkKB2 = true := check_less (Ky := opk2k0y) (Kn := opk2k0n) (i := ⟨0, 9223372036854775807, []⟩) (by kernel_rfl) (by kernel_rfl) (by kernel_rfl) (.inr opk2h1) (.inr opk2h120)
theorem opkCheck2 : opk2t0.check (okKD Try.prog opkKn opkDer [3, 4, 5, 6] opkET 100000 60 7 (opkArgs true)) (opkKB ⟨-9223372036854775808, -1, []⟩ opkBig) = true := opk2h0
end Go.Proofs.Ytliljfncbljfpaa
