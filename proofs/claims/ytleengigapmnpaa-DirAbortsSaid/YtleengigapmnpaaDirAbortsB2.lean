/- DirAborts: the walk of the statement, by the evaluator, trees of questions, facts. -/
import Derived.Test.YtleengigapmnpaaEvS
import Derived.Test.YtleengigapmnpaaEvZc
import Derived.Test.YtleengigapmnpaaTabDir
import Derived.Test.YtleengigapmnpaaChangeEq
import Derived.Test.YtleengigapmnpaaDirAbortsA
import Derived.ProofKit
namespace Go.Proofs.Ytleengigapmnpaa
open Go.RowKit
set_option linter.unusedVariables false
set_option linter.unusedSimpArgs false
set_option maxRecDepth 100000

theorem dirAborts0h7 : DT.leaf.check (okKX Try.prog dirAbortsKn (fctOrc dirAbortsF0) [] dirAbortsET 100000 60 7 dirAbortsArgs) dirAborts0k6y = true := leafX_fast (tblFind_ok ctL_ok) (by kernel_rfl)
theorem dirAborts0h16 : DT.leaf.check (okKX Try.prog dirAbortsKn (fctOrc dirAbortsF0) [] dirAbortsET 100000 60 7 dirAbortsArgs) dirAborts0k15y = true := leafX_fast (tblFind_ok ctL_ok) (by kernel_rfl)
theorem dirAborts0h24 : DT.leaf.check (okKX Try.prog dirAbortsKn (fctOrc dirAbortsF0) [] dirAbortsET 100000 60 7 dirAbortsArgs) dirAborts0k23y = true := leafX_fast (tblFind_ok ctL_ok) (by kernel_rfl)
theorem dirAborts0h32 : DT.leaf.check (okKX Try.prog dirAbortsKn (fctOrc dirAbortsF0) [] dirAbortsET 100000 60 7 dirAbortsArgs) dirAborts0k31y = true := leafX_fast (tblFind_ok ctL_ok) (by kernel_rfl)
theorem dirAborts0h40 : DT.leaf.check (okKX Try.prog dirAbortsKn (fctOrc dirAbortsF0) [] dirAbortsET 100000 60 7 dirAbortsArgs) dirAborts0k39y = true := leafX_fast (tblFind_ok ctL_ok) (by kernel_rfl)
theorem dirAborts0h48 : DT.leaf.check (okKX Try.prog dirAbortsKn (fctOrc dirAbortsF0) [] dirAbortsET 100000 60 7 dirAbortsArgs) dirAborts0k47y = true := leafX_fast (tblFind_ok ctL_ok) (by kernel_rfl)
theorem dirAborts0h56 : DT.leaf.check (okKX Try.prog dirAbortsKn (fctOrc dirAbortsF0) [] dirAbortsET 100000 60 7 dirAbortsArgs) dirAborts0k55y = true := leafX_fast (tblFind_ok ctL_ok) (by kernel_rfl)
theorem dirAborts0h64 : DT.leaf.check (okKX Try.prog dirAbortsKn (fctOrc dirAbortsF0) [] dirAbortsET 100000 60 7 dirAbortsArgs) dirAborts0k63y = true := leafX_fast (tblFind_ok ctL_ok) (by kernel_rfl)
theorem dirAborts0h72 : DT.leaf.check (okKX Try.prog dirAbortsKn (fctOrc dirAbortsF0) [] dirAbortsET 100000 60 7 dirAbortsArgs) dirAborts0k71y = true := leafX_fast (tblFind_ok ctL_ok) (by kernel_rfl)
theorem dirAborts0h80 : DT.leaf.check (okKX Try.prog dirAbortsKn (fctOrc dirAbortsF0) [] dirAbortsET 100000 60 7 dirAbortsArgs) dirAborts0k79y = true := leafX_fast (tblFind_ok ctL_ok) (by kernel_rfl)
theorem dirAborts0h88 : DT.leaf.check (okKX Try.prog dirAbortsKn (fctOrc dirAbortsF0) [] dirAbortsET 100000 60 7 dirAbortsArgs) dirAborts0k87y = true := leafX_fast (tblFind_ok ctL_ok) (by kernel_rfl)
theorem dirAborts0h96 : DT.leaf.check (okKX Try.prog dirAbortsKn (fctOrc dirAbortsF0) [] dirAbortsET 100000 60 7 dirAbortsArgs) dirAborts0k95y = true := leafX_fast (tblFind_ok ctL_ok) (by kernel_rfl)
theorem dirAborts0h104 : DT.leaf.check (okKX Try.prog dirAbortsKn (fctOrc dirAbortsF0) [] dirAbortsET 100000 60 7 dirAbortsArgs) dirAborts0k103y = true := leafX_fast (tblFind_ok ctL_ok) (by kernel_rfl)
theorem dirAborts0h112 : DT.leaf.check (okKX Try.prog dirAbortsKn (fctOrc dirAbortsF0) [] dirAbortsET 100000 60 7 dirAbortsArgs) dirAborts0k111y = true := leafX_fast (tblFind_ok ctL_ok) (by kernel_rfl)
theorem dirAborts0h120 : DT.leaf.check (okKX Try.prog dirAbortsKn (fctOrc dirAbortsF0) [] dirAbortsET 100000 60 7 dirAbortsArgs) dirAborts0k119y = true := leafX_fast (tblFind_ok ctL_ok) (by kernel_rfl)
theorem dirAborts0h127 : DT.leaf.check (okKX Try.prog dirAbortsKn (fctOrc dirAbortsF0) [] dirAbortsET 100000 60 7 dirAbortsArgs) dirAborts0k125n = true := leafX_fast (tblFind_ok ctL_ok) (by kernel_rfl)
theorem dirAborts0h136 : DT.leaf.check (okKX Try.prog dirAbortsKn (fctOrc dirAbortsF0) [] dirAbortsET 100000 60 7 dirAbortsArgs) dirAborts0k135y = true := leafX_fast (tblFind_ok ctL_ok) (by kernel_rfl)
theorem dirAborts0h144 : DT.leaf.check (okKX Try.prog dirAbortsKn (fctOrc dirAbortsF0) [] dirAbortsET 100000 60 7 dirAbortsArgs) dirAborts0k143y = true := leafX_fast (tblFind_ok ctL_ok) (by kernel_rfl)
theorem dirAborts0h152 : DT.leaf.check (okKX Try.prog dirAbortsKn (fctOrc dirAbortsF0) [] dirAbortsET 100000 60 7 dirAbortsArgs) dirAborts0k151y = true := leafX_fast (tblFind_ok ctL_ok) (by kernel_rfl)
theorem dirAborts0h160 : DT.leaf.check (okKX Try.prog dirAbortsKn (fctOrc dirAbortsF0) [] dirAbortsET 100000 60 7 dirAbortsArgs) dirAborts0k159y = true := leafX_fast (tblFind_ok ctL_ok) (by kernel_rfl)
theorem dirAborts0h168 : DT.leaf.check (okKX Try.prog dirAbortsKn (fctOrc dirAbortsF0) [] dirAbortsET 100000 60 7 dirAbortsArgs) dirAborts0k167y = true := leafX_fast (tblFind_ok ctL_ok) (by kernel_rfl)
theorem dirAborts0h176 : DT.leaf.check (okKX Try.prog dirAbortsKn (fctOrc dirAbortsF0) [] dirAbortsET 100000 60 7 dirAbortsArgs) dirAborts0k175y = true := leafX_fast (tblFind_ok ctL_ok) (by kernel_rfl)
theorem dirAborts0h184 : DT.leaf.check (okKX Try.prog dirAbortsKn (fctOrc dirAbortsF0) [] dirAbortsET 100000 60 7 dirAbortsArgs) dirAborts0k183y = true := leafX_fast (tblFind_ok ctL_ok) (by kernel_rfl)
theorem dirAborts0h192 : DT.leaf.check (okKX Try.prog dirAbortsKn (fctOrc dirAbortsF0) [] dirAbortsET 100000 60 7 dirAbortsArgs) dirAborts0k191y = true := leafX_fast (tblFind_ok ctL_ok) (by kernel_rfl)
theorem dirAborts0h200 : DT.leaf.check (okKX Try.prog dirAbortsKn (fctOrc dirAbortsF0) [] dirAbortsET 100000 60 7 dirAbortsArgs) dirAborts0k199y = true := leafX_fast (tblFind_ok ctL_ok) (by kernel_rfl)
theorem dirAborts0h208 : DT.leaf.check (okKX Try.prog dirAbortsKn (fctOrc dirAbortsF0) [] dirAbortsET 100000 60 7 dirAbortsArgs) dirAborts0k207y = true := leafX_fast (tblFind_ok ctL_ok) (by kernel_rfl)
theorem dirAborts0h216 : DT.leaf.check (okKX Try.prog dirAbortsKn (fctOrc dirAbortsF0) [] dirAbortsET 100000 60 7 dirAbortsArgs) dirAborts0k215y = true := leafX_fast (tblFind_ok ctL_ok) (by kernel_rfl)
theorem dirAborts0h224 : DT.leaf.check (okKX Try.prog dirAbortsKn (fctOrc dirAbortsF0) [] dirAbortsET 100000 60 7 dirAbortsArgs) dirAborts0k223y = true := leafX_fast (tblFind_ok ctL_ok) (by kernel_rfl)
theorem dirAborts0h232 : DT.leaf.check (okKX Try.prog dirAbortsKn (fctOrc dirAbortsF0) [] dirAbortsET 100000 60 7 dirAbortsArgs) dirAborts0k231y = true := leafX_fast (tblFind_ok ctL_ok) (by kernel_rfl)
theorem dirAborts0h240 : DT.leaf.check (okKX Try.prog dirAbortsKn (fctOrc dirAbortsF0) [] dirAbortsET 100000 60 7 dirAbortsArgs) dirAborts0k239y = true := leafX_fast (tblFind_ok ctL_ok) (by kernel_rfl)
theorem dirAborts0h247 : DT.leaf.check (okKX Try.prog dirAbortsKn (fctOrc dirAbortsF0) [] dirAbortsET 100000 60 7 dirAbortsArgs) dirAborts0k245n = true := leafX_fast (tblFind_ok ctL_ok) (by kernel_rfl)
theorem dirAborts0h255 : DT.leaf.check (okKX Try.prog dirAbortsKn (fctOrc dirAbortsF0) [] dirAbortsET 100000 60 7 dirAbortsArgs) dirAborts0k254y = true := leafX_fast (tblFind_ok ctL_ok) (by kernel_rfl)
theorem dirAborts0h263 : DT.leaf.check (okKX Try.prog dirAbortsKn (fctOrc dirAbortsF0) [] dirAbortsET 100000 60 7 dirAbortsArgs) dirAborts0k262y = true := leafX_fast (tblFind_ok ctL_ok) (by kernel_rfl)
theorem dirAborts0h271 : DT.leaf.check (okKX Try.prog dirAbortsKn (fctOrc dirAbortsF0) [] dirAbortsET 100000 60 7 dirAbortsArgs) dirAborts0k270y = true := leafX_fast (tblFind_ok ctL_ok) (by kernel_rfl)
theorem dirAborts0h279 : DT.leaf.check (okKX Try.prog dirAbortsKn (fctOrc dirAbortsF0) [] dirAbortsET 100000 60 7 dirAbortsArgs) dirAborts0k278y = true := leafX_fast (tblFind_ok ctL_ok) (by kernel_rfl)
theorem dirAborts0h287 : DT.leaf.check (okKX Try.prog dirAbortsKn (fctOrc dirAbortsF0) [] dirAbortsET 100000 60 7 dirAbortsArgs) dirAborts0k286y = true := leafX_fast (tblFind_ok ctL_ok) (by kernel_rfl)
theorem dirAborts0h295 : DT.leaf.check (okKX Try.prog dirAbortsKn (fctOrc dirAbortsF0) [] dirAbortsET 100000 60 7 dirAbortsArgs) dirAborts0k294y = true := leafX_fast (tblFind_ok ctL_ok) (by kernel_rfl)
theorem dirAborts0h303 : DT.leaf.check (okKX Try.prog dirAbortsKn (fctOrc dirAbortsF0) [] dirAbortsET 100000 60 7 dirAbortsArgs) dirAborts0k302y = true := leafX_fast (tblFind_ok ctL_ok) (by kernel_rfl)
theorem dirAborts0h308 : DT.leaf.check (okKX Try.prog dirAbortsKn (fctOrc dirAbortsF0) [] dirAbortsET 100000 60 7 dirAbortsArgs) dirAborts0k2n = true := leafX_fast (tblFind_ok ctL_ok) (by kernel_rfl)
end Go.Proofs.Ytleengigapmnpaa
