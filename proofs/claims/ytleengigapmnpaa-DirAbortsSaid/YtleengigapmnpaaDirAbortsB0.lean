/- DirAborts: the walk of the statement, by the evaluator, trees of questions, facts. -/
import Derived.Test.YtleengigapmnpaaEvS
import Derived.Test.YtleengigapmnpaaEvZc
import Derived.Test.YtleengigapmnpaaTabDir
import Derived.Test.YtleengigapmnpaaChangeEq
import Derived.Test.YtleengigapmnpaaDirAbortsA
import Derived.ProofKit
namespace Go.Proofs.Ytleengigapmnpaa
open Go.RowKit
set_option linter.unusedVariables false
set_option linter.unusedSimpArgs false
set_option maxRecDepth 100000

theorem dirAborts0h1 : DT.leaf.check (okKX Try.prog dirAbortsKn (fctOrc dirAbortsF0) [] dirAbortsET 100000 60 7 dirAbortsArgs) dirAborts0k0y = true := leafX_fast (tblFind_ok ctL_ok) (by kernel_rfl)
theorem dirAborts0h12 : DT.leaf.check (okKX Try.prog dirAbortsKn (fctOrc dirAbortsF0) [] dirAbortsET 100000 60 7 dirAbortsArgs) dirAborts0k11y = true := leafX_fast (tblFind_ok ctL_ok) (by kernel_rfl)
theorem dirAborts0h20 : DT.leaf.check (okKX Try.prog dirAbortsKn (fctOrc dirAbortsF0) [] dirAbortsET 100000 60 7 dirAbortsArgs) dirAborts0k19y = true := leafX_fast (tblFind_ok ctL_ok) (by kernel_rfl)
theorem dirAborts0h28 : DT.leaf.check (okKX Try.prog dirAbortsKn (fctOrc dirAbortsF0) [] dirAbortsET 100000 60 7 dirAbortsArgs) dirAborts0k27y = true := leafX_fast (tblFind_ok ctL_ok) (by kernel_rfl)
theorem dirAborts0h36 : DT.leaf.check (okKX Try.prog dirAbortsKn (fctOrc dirAbortsF0) [] dirAbortsET 100000 60 7 dirAbortsArgs) dirAborts0k35y = true := leafX_fast (tblFind_ok ctL_ok) (by kernel_rfl)
theorem dirAborts0h44 : DT.leaf.check (okKX Try.prog dirAbortsKn (fctOrc dirAbortsF0) [] dirAbortsET 100000 60 7 dirAbortsArgs) dirAborts0k43y = true := leafX_fast (tblFind_ok ctL_ok) (by kernel_rfl)
theorem dirAborts0h52 : DT.leaf.check (okKX Try.prog dirAbortsKn (fctOrc dirAbortsF0) [] dirAbortsET 100000 60 7 dirAbortsArgs) dirAborts0k51y = true := leafX_fast (tblFind_ok ctL_ok) (by kernel_rfl)
theorem dirAborts0h60 : DT.leaf.check (okKX Try.prog dirAbortsKn (fctOrc dirAbortsF0) [] dirAbortsET 100000 60 7 dirAbortsArgs) dirAborts0k59y = true := leafX_fast (tblFind_ok ctL_ok) (by kernel_rfl)
theorem dirAborts0h67 : DT.leaf.check (okKX Try.prog dirAbortsKn (fctOrc dirAbortsF0) [] dirAbortsET 100000 60 7 dirAbortsArgs) dirAborts0k65n = true := leafX_fast (tblFind_ok ctL_ok) (by kernel_rfl)
theorem dirAborts0h76 : DT.leaf.check (okKX Try.prog dirAbortsKn (fctOrc dirAbortsF0) [] dirAbortsET 100000 60 7 dirAbortsArgs) dirAborts0k75y = true := leafX_fast (tblFind_ok ctL_ok) (by kernel_rfl)
theorem dirAborts0h84 : DT.leaf.check (okKX Try.prog dirAbortsKn (fctOrc dirAbortsF0) [] dirAbortsET 100000 60 7 dirAbortsArgs) dirAborts0k83y = true := leafX_fast (tblFind_ok ctL_ok) (by kernel_rfl)
theorem dirAborts0h92 : DT.leaf.check (okKX Try.prog dirAbortsKn (fctOrc dirAbortsF0) [] dirAbortsET 100000 60 7 dirAbortsArgs) dirAborts0k91y = true := leafX_fast (tblFind_ok ctL_ok) (by kernel_rfl)
theorem dirAborts0h100 : DT.leaf.check (okKX Try.prog dirAbortsKn (fctOrc dirAbortsF0) [] dirAbortsET 100000 60 7 dirAbortsArgs) dirAborts0k99y = true := leafX_fast (tblFind_ok ctL_ok) (by kernel_rfl)
theorem dirAborts0h108 : DT.leaf.check (okKX Try.prog dirAbortsKn (fctOrc dirAbortsF0) [] dirAbortsET 100000 60 7 dirAbortsArgs) dirAborts0k107y = true := leafX_fast (tblFind_ok ctL_ok) (by kernel_rfl)
theorem dirAborts0h116 : DT.leaf.check (okKX Try.prog dirAbortsKn (fctOrc dirAbortsF0) [] dirAbortsET 100000 60 7 dirAbortsArgs) dirAborts0k115y = true := leafX_fast (tblFind_ok ctL_ok) (by kernel_rfl)
theorem dirAborts0h124 : DT.leaf.check (okKX Try.prog dirAbortsKn (fctOrc dirAbortsF0) [] dirAbortsET 100000 60 7 dirAbortsArgs) dirAborts0k123y = true := leafX_fast (tblFind_ok ctL_ok) (by kernel_rfl)
theorem dirAborts0h132 : DT.leaf.check (okKX Try.prog dirAbortsKn (fctOrc dirAbortsF0) [] dirAbortsET 100000 60 7 dirAbortsArgs) dirAborts0k131y = true := leafX_fast (tblFind_ok ctL_ok) (by kernel_rfl)
theorem dirAborts0h140 : DT.leaf.check (okKX Try.prog dirAbortsKn (fctOrc dirAbortsF0) [] dirAbortsET 100000 60 7 dirAbortsArgs) dirAborts0k139y = true := leafX_fast (tblFind_ok ctL_ok) (by kernel_rfl)
theorem dirAborts0h148 : DT.leaf.check (okKX Try.prog dirAbortsKn (fctOrc dirAbortsF0) [] dirAbortsET 100000 60 7 dirAbortsArgs) dirAborts0k147y = true := leafX_fast (tblFind_ok ctL_ok) (by kernel_rfl)
theorem dirAborts0h156 : DT.leaf.check (okKX Try.prog dirAbortsKn (fctOrc dirAbortsF0) [] dirAbortsET 100000 60 7 dirAbortsArgs) dirAborts0k155y = true := leafX_fast (tblFind_ok ctL_ok) (by kernel_rfl)
theorem dirAborts0h164 : DT.leaf.check (okKX Try.prog dirAbortsKn (fctOrc dirAbortsF0) [] dirAbortsET 100000 60 7 dirAbortsArgs) dirAborts0k163y = true := leafX_fast (tblFind_ok ctL_ok) (by kernel_rfl)
theorem dirAborts0h172 : DT.leaf.check (okKX Try.prog dirAbortsKn (fctOrc dirAbortsF0) [] dirAbortsET 100000 60 7 dirAbortsArgs) dirAborts0k171y = true := leafX_fast (tblFind_ok ctL_ok) (by kernel_rfl)
theorem dirAborts0h180 : DT.leaf.check (okKX Try.prog dirAbortsKn (fctOrc dirAbortsF0) [] dirAbortsET 100000 60 7 dirAbortsArgs) dirAborts0k179y = true := leafX_fast (tblFind_ok ctL_ok) (by kernel_rfl)
theorem dirAborts0h187 : DT.leaf.check (okKX Try.prog dirAbortsKn (fctOrc dirAbortsF0) [] dirAbortsET 100000 60 7 dirAbortsArgs) dirAborts0k185n = true := leafX_fast (tblFind_ok ctL_ok) (by kernel_rfl)
theorem dirAborts0h196 : DT.leaf.check (okKX Try.prog dirAbortsKn (fctOrc dirAbortsF0) [] dirAbortsET 100000 60 7 dirAbortsArgs) dirAborts0k195y = true := leafX_fast (tblFind_ok ctL_ok) (by kernel_rfl)
theorem dirAborts0h204 : DT.leaf.check (okKX Try.prog dirAbortsKn (fctOrc dirAbortsF0) [] dirAbortsET 100000 60 7 dirAbortsArgs) dirAborts0k203y = true := leafX_fast (tblFind_ok ctL_ok) (by kernel_rfl)
theorem dirAborts0h212 : DT.leaf.check (okKX Try.prog dirAbortsKn (fctOrc dirAbortsF0) [] dirAbortsET 100000 60 7 dirAbortsArgs) dirAborts0k211y = true := leafX_fast (tblFind_ok ctL_ok) (by kernel_rfl)
theorem dirAborts0h220 : DT.leaf.check (okKX Try.prog dirAbortsKn (fctOrc dirAbortsF0) [] dirAbortsET 100000 60 7 dirAbortsArgs) dirAborts0k219y = true := leafX_fast (tblFind_ok ctL_ok) (by kernel_rfl)
theorem dirAborts0h228 : DT.leaf.check (okKX Try.prog dirAbortsKn (fctOrc dirAbortsF0) [] dirAbortsET 100000 60 7 dirAbortsArgs) dirAborts0k227y = true := leafX_fast (tblFind_ok ctL_ok) (by kernel_rfl)
theorem dirAborts0h236 : DT.leaf.check (okKX Try.prog dirAbortsKn (fctOrc dirAbortsF0) [] dirAbortsET 100000 60 7 dirAbortsArgs) dirAborts0k235y = true := leafX_fast (tblFind_ok ctL_ok) (by kernel_rfl)
theorem dirAborts0h244 : DT.leaf.check (okKX Try.prog dirAbortsKn (fctOrc dirAbortsF0) [] dirAbortsET 100000 60 7 dirAbortsArgs) dirAborts0k243y = true := leafX_fast (tblFind_ok ctL_ok) (by kernel_rfl)
theorem dirAborts0h251 : DT.leaf.check (okKX Try.prog dirAbortsKn (fctOrc dirAbortsF0) [] dirAbortsET 100000 60 7 dirAbortsArgs) dirAborts0k250y = true := leafX_fast (tblFind_ok ctL_ok) (by kernel_rfl)
theorem dirAborts0h259 : DT.leaf.check (okKX Try.prog dirAbortsKn (fctOrc dirAbortsF0) [] dirAbortsET 100000 60 7 dirAbortsArgs) dirAborts0k258y = true := leafX_fast (tblFind_ok ctL_ok) (by kernel_rfl)
theorem dirAborts0h267 : DT.leaf.check (okKX Try.prog dirAbortsKn (fctOrc dirAbortsF0) [] dirAbortsET 100000 60 7 dirAbortsArgs) dirAborts0k266y = true := leafX_fast (tblFind_ok ctL_ok) (by kernel_rfl)
theorem dirAborts0h275 : DT.leaf.check (okKX Try.prog dirAbortsKn (fctOrc dirAbortsF0) [] dirAbortsET 100000 60 7 dirAbortsArgs) dirAborts0k274y = true := leafX_fast (tblFind_ok ctL_ok) (by kernel_rfl)
theorem dirAborts0h283 : DT.leaf.check (okKX Try.prog dirAbortsKn (fctOrc dirAbortsF0) [] dirAbortsET 100000 60 7 dirAbortsArgs) dirAborts0k282y = true := leafX_fast (tblFind_ok ctL_ok) (by kernel_rfl)
theorem dirAborts0h291 : DT.leaf.check (okKX Try.prog dirAbortsKn (fctOrc dirAbortsF0) [] dirAbortsET 100000 60 7 dirAbortsArgs) dirAborts0k290y = true := leafX_fast (tblFind_ok ctL_ok) (by kernel_rfl)
theorem dirAborts0h299 : DT.leaf.check (okKX Try.prog dirAbortsKn (fctOrc dirAbortsF0) [] dirAbortsET 100000 60 7 dirAbortsArgs) dirAborts0k298y = true := leafX_fast (tblFind_ok ctL_ok) (by kernel_rfl)
theorem dirAborts0h306 : DT.leaf.check (okKX Try.prog dirAbortsKn (fctOrc dirAbortsF0) [] dirAbortsET 100000 60 7 dirAbortsArgs) dirAborts0k304n = true := leafX_fast (tblFind_ok ctL_ok) (by kernel_rfl)
end Go.Proofs.Ytleengigapmnpaa
