/- DirAborts: the walk of the statement, by the evaluator, trees of questions, facts. -/
import Derived.Test.YtleengigapmnpaaEvS
import Derived.Test.YtleengigapmnpaaEvZc
import Derived.Test.YtleengigapmnpaaTabDir
import Derived.Test.YtleengigapmnpaaChangeEq
import Derived.Test.YtleengigapmnpaaDirAbortsA
import Derived.ProofKit
namespace Go.Proofs.Ytleengigapmnpaa
open Go.RowKit
set_option linter.unusedVariables false
set_option linter.unusedSimpArgs false
set_option maxRecDepth 100000

theorem dirAborts0h10 : DT.leaf.check (okKX Try.prog dirAbortsKn (fctOrc dirAbortsF0) [] dirAbortsET 100000 60 7 dirAbortsArgs) dirAborts0k9y = true := leafX_fast (tblFind_ok ctL_ok) (by kernel_rfl)
theorem dirAborts0h18 : DT.leaf.check (okKX Try.prog dirAbortsKn (fctOrc dirAbortsF0) [] dirAbortsET 100000 60 7 dirAbortsArgs) dirAborts0k17y = true := leafX_fast (tblFind_ok ctL_ok) (by kernel_rfl)
theorem dirAborts0h26 : DT.leaf.check (okKX Try.prog dirAbortsKn (fctOrc dirAbortsF0) [] dirAbortsET 100000 60 7 dirAbortsArgs) dirAborts0k25y = true := leafX_fast (tblFind_ok ctL_ok) (by kernel_rfl)
theorem dirAborts0h34 : DT.leaf.check (okKX Try.prog dirAbortsKn (fctOrc dirAbortsF0) [] dirAbortsET 100000 60 7 dirAbortsArgs) dirAborts0k33y = true := leafX_fast (tblFind_ok ctL_ok) (by kernel_rfl)
theorem dirAborts0h42 : DT.leaf.check (okKX Try.prog dirAbortsKn (fctOrc dirAbortsF0) [] dirAbortsET 100000 60 7 dirAbortsArgs) dirAborts0k41y = true := leafX_fast (tblFind_ok ctL_ok) (by kernel_rfl)
theorem dirAborts0h50 : DT.leaf.check (okKX Try.prog dirAbortsKn (fctOrc dirAbortsF0) [] dirAbortsET 100000 60 7 dirAbortsArgs) dirAborts0k49y = true := leafX_fast (tblFind_ok ctL_ok) (by kernel_rfl)
theorem dirAborts0h58 : DT.leaf.check (okKX Try.prog dirAbortsKn (fctOrc dirAbortsF0) [] dirAbortsET 100000 60 7 dirAbortsArgs) dirAborts0k57y = true := leafX_fast (tblFind_ok ctL_ok) (by kernel_rfl)
theorem dirAborts0h66 : DT.leaf.check (okKX Try.prog dirAbortsKn (fctOrc dirAbortsF0) [] dirAbortsET 100000 60 7 dirAbortsArgs) dirAborts0k65y = true := leafX_fast (tblFind_ok ctL_ok) (by kernel_rfl)
theorem dirAborts0h74 : DT.leaf.check (okKX Try.prog dirAbortsKn (fctOrc dirAbortsF0) [] dirAbortsET 100000 60 7 dirAbortsArgs) dirAborts0k73y = true := leafX_fast (tblFind_ok ctL_ok) (by kernel_rfl)
theorem dirAborts0h82 : DT.leaf.check (okKX Try.prog dirAbortsKn (fctOrc dirAbortsF0) [] dirAbortsET 100000 60 7 dirAbortsArgs) dirAborts0k81y = true := leafX_fast (tblFind_ok ctL_ok) (by kernel_rfl)
theorem dirAborts0h90 : DT.leaf.check (okKX Try.prog dirAbortsKn (fctOrc dirAbortsF0) [] dirAbortsET 100000 60 7 dirAbortsArgs) dirAborts0k89y = true := leafX_fast (tblFind_ok ctL_ok) (by kernel_rfl)
theorem dirAborts0h98 : DT.leaf.check (okKX Try.prog dirAbortsKn (fctOrc dirAbortsF0) [] dirAbortsET 100000 60 7 dirAbortsArgs) dirAborts0k97y = true := leafX_fast (tblFind_ok ctL_ok) (by kernel_rfl)
theorem dirAborts0h106 : DT.leaf.check (okKX Try.prog dirAbortsKn (fctOrc dirAbortsF0) [] dirAbortsET 100000 60 7 dirAbortsArgs) dirAborts0k105y = true := leafX_fast (tblFind_ok ctL_ok) (by kernel_rfl)
theorem dirAborts0h114 : DT.leaf.check (okKX Try.prog dirAbortsKn (fctOrc dirAbortsF0) [] dirAbortsET 100000 60 7 dirAbortsArgs) dirAborts0k113y = true := leafX_fast (tblFind_ok ctL_ok) (by kernel_rfl)
theorem dirAborts0h122 : DT.leaf.check (okKX Try.prog dirAbortsKn (fctOrc dirAbortsF0) [] dirAbortsET 100000 60 7 dirAbortsArgs) dirAborts0k121y = true := leafX_fast (tblFind_ok ctL_ok) (by kernel_rfl)
theorem dirAborts0h130 : DT.leaf.check (okKX Try.prog dirAbortsKn (fctOrc dirAbortsF0) [] dirAbortsET 100000 60 7 dirAbortsArgs) dirAborts0k129y = true := leafX_fast (tblFind_ok ctL_ok) (by kernel_rfl)
theorem dirAborts0h138 : DT.leaf.check (okKX Try.prog dirAbortsKn (fctOrc dirAbortsF0) [] dirAbortsET 100000 60 7 dirAbortsArgs) dirAborts0k137y = true := leafX_fast (tblFind_ok ctL_ok) (by kernel_rfl)
theorem dirAborts0h146 : DT.leaf.check (okKX Try.prog dirAbortsKn (fctOrc dirAbortsF0) [] dirAbortsET 100000 60 7 dirAbortsArgs) dirAborts0k145y = true := leafX_fast (tblFind_ok ctL_ok) (by kernel_rfl)
theorem dirAborts0h154 : DT.leaf.check (okKX Try.prog dirAbortsKn (fctOrc dirAbortsF0) [] dirAbortsET 100000 60 7 dirAbortsArgs) dirAborts0k153y = true := leafX_fast (tblFind_ok ctL_ok) (by kernel_rfl)
theorem dirAborts0h162 : DT.leaf.check (okKX Try.prog dirAbortsKn (fctOrc dirAbortsF0) [] dirAbortsET 100000 60 7 dirAbortsArgs) dirAborts0k161y = true := leafX_fast (tblFind_ok ctL_ok) (by kernel_rfl)
theorem dirAborts0h170 : DT.leaf.check (okKX Try.prog dirAbortsKn (fctOrc dirAbortsF0) [] dirAbortsET 100000 60 7 dirAbortsArgs) dirAborts0k169y = true := leafX_fast (tblFind_ok ctL_ok) (by kernel_rfl)
theorem dirAborts0h178 : DT.leaf.check (okKX Try.prog dirAbortsKn (fctOrc dirAbortsF0) [] dirAbortsET 100000 60 7 dirAbortsArgs) dirAborts0k177y = true := leafX_fast (tblFind_ok ctL_ok) (by kernel_rfl)
theorem dirAborts0h186 : DT.leaf.check (okKX Try.prog dirAbortsKn (fctOrc dirAbortsF0) [] dirAbortsET 100000 60 7 dirAbortsArgs) dirAborts0k185y = true := leafX_fast (tblFind_ok ctL_ok) (by kernel_rfl)
theorem dirAborts0h194 : DT.leaf.check (okKX Try.prog dirAbortsKn (fctOrc dirAbortsF0) [] dirAbortsET 100000 60 7 dirAbortsArgs) dirAborts0k193y = true := leafX_fast (tblFind_ok ctL_ok) (by kernel_rfl)
theorem dirAborts0h202 : DT.leaf.check (okKX Try.prog dirAbortsKn (fctOrc dirAbortsF0) [] dirAbortsET 100000 60 7 dirAbortsArgs) dirAborts0k201y = true := leafX_fast (tblFind_ok ctL_ok) (by kernel_rfl)
theorem dirAborts0h210 : DT.leaf.check (okKX Try.prog dirAbortsKn (fctOrc dirAbortsF0) [] dirAbortsET 100000 60 7 dirAbortsArgs) dirAborts0k209y = true := leafX_fast (tblFind_ok ctL_ok) (by kernel_rfl)
theorem dirAborts0h218 : DT.leaf.check (okKX Try.prog dirAbortsKn (fctOrc dirAbortsF0) [] dirAbortsET 100000 60 7 dirAbortsArgs) dirAborts0k217y = true := leafX_fast (tblFind_ok ctL_ok) (by kernel_rfl)
theorem dirAborts0h226 : DT.leaf.check (okKX Try.prog dirAbortsKn (fctOrc dirAbortsF0) [] dirAbortsET 100000 60 7 dirAbortsArgs) dirAborts0k225y = true := leafX_fast (tblFind_ok ctL_ok) (by kernel_rfl)
theorem dirAborts0h234 : DT.leaf.check (okKX Try.prog dirAbortsKn (fctOrc dirAbortsF0) [] dirAbortsET 100000 60 7 dirAbortsArgs) dirAborts0k233y = true := leafX_fast (tblFind_ok ctL_ok) (by kernel_rfl)
theorem dirAborts0h242 : DT.leaf.check (okKX Try.prog dirAbortsKn (fctOrc dirAbortsF0) [] dirAbortsET 100000 60 7 dirAbortsArgs) dirAborts0k241y = true := leafX_fast (tblFind_ok ctL_ok) (by kernel_rfl)
theorem dirAborts0h249 : DT.leaf.check (okKX Try.prog dirAbortsKn (fctOrc dirAbortsF0) [] dirAbortsET 100000 60 7 dirAbortsArgs) dirAborts0k248y = true := leafX_fast (tblFind_ok ctL_ok) (by kernel_rfl)
theorem dirAborts0h257 : DT.leaf.check (okKX Try.prog dirAbortsKn (fctOrc dirAbortsF0) [] dirAbortsET 100000 60 7 dirAbortsArgs) dirAborts0k256y = true := leafX_fast (tblFind_ok ctL_ok) (by kernel_rfl)
theorem dirAborts0h265 : DT.leaf.check (okKX Try.prog dirAbortsKn (fctOrc dirAbortsF0) [] dirAbortsET 100000 60 7 dirAbortsArgs) dirAborts0k264y = true := leafX_fast (tblFind_ok ctL_ok) (by kernel_rfl)
theorem dirAborts0h273 : DT.leaf.check (okKX Try.prog dirAbortsKn (fctOrc dirAbortsF0) [] dirAbortsET 100000 60 7 dirAbortsArgs) dirAborts0k272y = true := leafX_fast (tblFind_ok ctL_ok) (by kernel_rfl)
theorem dirAborts0h281 : DT.leaf.check (okKX Try.prog dirAbortsKn (fctOrc dirAbortsF0) [] dirAbortsET 100000 60 7 dirAbortsArgs) dirAborts0k280y = true := leafX_fast (tblFind_ok ctL_ok) (by kernel_rfl)
theorem dirAborts0h289 : DT.leaf.check (okKX Try.prog dirAbortsKn (fctOrc dirAbortsF0) [] dirAbortsET 100000 60 7 dirAbortsArgs) dirAborts0k288y = true := leafX_fast (tblFind_ok ctL_ok) (by kernel_rfl)
theorem dirAborts0h297 : DT.leaf.check (okKX Try.prog dirAbortsKn (fctOrc dirAbortsF0) [] dirAbortsET 100000 60 7 dirAbortsArgs) dirAborts0k296y = true := leafX_fast (tblFind_ok ctL_ok) (by kernel_rfl)
theorem dirAborts0h305 : DT.leaf.check (okKX Try.prog dirAbortsKn (fctOrc dirAbortsF0) [] dirAbortsET 100000 60 7 dirAbortsArgs) dirAborts0k304y = true := leafX_fast (tblFind_ok ctL_ok) (by kernel_rfl)
end Go.Proofs.Ytleengigapmnpaa
