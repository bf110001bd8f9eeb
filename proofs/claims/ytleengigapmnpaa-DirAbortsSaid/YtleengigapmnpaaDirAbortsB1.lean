/- DirAborts: the walk of the statement, by the evaluator, trees of questions, facts. -/
import Derived.Test.YtleengigapmnpaaEvS
import Derived.Test.YtleengigapmnpaaEvZc
import Derived.Test.YtleengigapmnpaaTabDir
import Derived.Test.YtleengigapmnpaaChangeEq
import Derived.Test.YtleengigapmnpaaDirAbortsA
import Derived.ProofKit
namespace Go.Proofs.Ytleengigapmnpaa
open Go.RowKit
set_option linter.unusedVariables false
set_option linter.unusedSimpArgs false
set_option maxRecDepth 100000

theorem dirAborts0h4 : DT.leaf.check (okKX Try.prog dirAbortsKn (fctOrc dirAbortsF0) [] dirAbortsET 100000 60 7 dirAbortsArgs) dirAborts0k3y = true := leafX_fast (tblFind_ok ctL_ok) (by kernel_rfl)
theorem dirAborts0h14 : DT.leaf.check (okKX Try.prog dirAbortsKn (fctOrc dirAbortsF0) [] dirAbortsET 100000 60 7 dirAbortsArgs) dirAborts0k13y = true := leafX_fast (tblFind_ok ctL_ok) (by kernel_rfl)
theorem dirAborts0h22 : DT.leaf.check (okKX Try.prog dirAbortsKn (fctOrc dirAbortsF0) [] dirAbortsET 100000 60 7 dirAbortsArgs) dirAborts0k21y = true := leafX_fast (tblFind_ok ctL_ok) (by kernel_rfl)
theorem dirAborts0h30 : DT.leaf.check (okKX Try.prog dirAbortsKn (fctOrc dirAbortsF0) [] dirAbortsET 100000 60 7 dirAbortsArgs) dirAborts0k29y = true := leafX_fast (tblFind_ok ctL_ok) (by kernel_rfl)
theorem dirAborts0h38 : DT.leaf.check (okKX Try.prog dirAbortsKn (fctOrc dirAbortsF0) [] dirAbortsET 100000 60 7 dirAbortsArgs) dirAborts0k37y = true := leafX_fast (tblFind_ok ctL_ok) (by kernel_rfl)
theorem dirAborts0h46 : DT.leaf.check (okKX Try.prog dirAbortsKn (fctOrc dirAbortsF0) [] dirAbortsET 100000 60 7 dirAbortsArgs) dirAborts0k45y = true := leafX_fast (tblFind_ok ctL_ok) (by kernel_rfl)
theorem dirAborts0h54 : DT.leaf.check (okKX Try.prog dirAbortsKn (fctOrc dirAbortsF0) [] dirAbortsET 100000 60 7 dirAbortsArgs) dirAborts0k53y = true := leafX_fast (tblFind_ok ctL_ok) (by kernel_rfl)
theorem dirAborts0h62 : DT.leaf.check (okKX Try.prog dirAbortsKn (fctOrc dirAbortsF0) [] dirAbortsET 100000 60 7 dirAbortsArgs) dirAborts0k61y = true := leafX_fast (tblFind_ok ctL_ok) (by kernel_rfl)
theorem dirAborts0h70 : DT.leaf.check (okKX Try.prog dirAbortsKn (fctOrc dirAbortsF0) [] dirAbortsET 100000 60 7 dirAbortsArgs) dirAborts0k69y = true := leafX_fast (tblFind_ok ctL_ok) (by kernel_rfl)
theorem dirAborts0h78 : DT.leaf.check (okKX Try.prog dirAbortsKn (fctOrc dirAbortsF0) [] dirAbortsET 100000 60 7 dirAbortsArgs) dirAborts0k77y = true := leafX_fast (tblFind_ok ctL_ok) (by kernel_rfl)
theorem dirAborts0h86 : DT.leaf.check (okKX Try.prog dirAbortsKn (fctOrc dirAbortsF0) [] dirAbortsET 100000 60 7 dirAbortsArgs) dirAborts0k85y = true := leafX_fast (tblFind_ok ctL_ok) (by kernel_rfl)
theorem dirAborts0h94 : DT.leaf.check (okKX Try.prog dirAbortsKn (fctOrc dirAbortsF0) [] dirAbortsET 100000 60 7 dirAbortsArgs) dirAborts0k93y = true := leafX_fast (tblFind_ok ctL_ok) (by kernel_rfl)
theorem dirAborts0h102 : DT.leaf.check (okKX Try.prog dirAbortsKn (fctOrc dirAbortsF0) [] dirAbortsET 100000 60 7 dirAbortsArgs) dirAborts0k101y = true := leafX_fast (tblFind_ok ctL_ok) (by kernel_rfl)
theorem dirAborts0h110 : DT.leaf.check (okKX Try.prog dirAbortsKn (fctOrc dirAbortsF0) [] dirAbortsET 100000 60 7 dirAbortsArgs) dirAborts0k109y = true := leafX_fast (tblFind_ok ctL_ok) (by kernel_rfl)
theorem dirAborts0h118 : DT.leaf.check (okKX Try.prog dirAbortsKn (fctOrc dirAbortsF0) [] dirAbortsET 100000 60 7 dirAbortsArgs) dirAborts0k117y = true := leafX_fast (tblFind_ok ctL_ok) (by kernel_rfl)
theorem dirAborts0h126 : DT.leaf.check (okKX Try.prog dirAbortsKn (fctOrc dirAbortsF0) [] dirAbortsET 100000 60 7 dirAbortsArgs) dirAborts0k125y = true := leafX_fast (tblFind_ok ctL_ok) (by kernel_rfl)
theorem dirAborts0h134 : DT.leaf.check (okKX Try.prog dirAbortsKn (fctOrc dirAbortsF0) [] dirAbortsET 100000 60 7 dirAbortsArgs) dirAborts0k133y = true := leafX_fast (tblFind_ok ctL_ok) (by kernel_rfl)
theorem dirAborts0h142 : DT.leaf.check (okKX Try.prog dirAbortsKn (fctOrc dirAbortsF0) [] dirAbortsET 100000 60 7 dirAbortsArgs) dirAborts0k141y = true := leafX_fast (tblFind_ok ctL_ok) (by kernel_rfl)
theorem dirAborts0h150 : DT.leaf.check (okKX Try.prog dirAbortsKn (fctOrc dirAbortsF0) [] dirAbortsET 100000 60 7 dirAbortsArgs) dirAborts0k149y = true := leafX_fast (tblFind_ok ctL_ok) (by kernel_rfl)
theorem dirAborts0h158 : DT.leaf.check (okKX Try.prog dirAbortsKn (fctOrc dirAbortsF0) [] dirAbortsET 100000 60 7 dirAbortsArgs) dirAborts0k157y = true := leafX_fast (tblFind_ok ctL_ok) (by kernel_rfl)
theorem dirAborts0h166 : DT.leaf.check (okKX Try.prog dirAbortsKn (fctOrc dirAbortsF0) [] dirAbortsET 100000 60 7 dirAbortsArgs) dirAborts0k165y = true := leafX_fast (tblFind_ok ctL_ok) (by kernel_rfl)
theorem dirAborts0h174 : DT.leaf.check (okKX Try.prog dirAbortsKn (fctOrc dirAbortsF0) [] dirAbortsET 100000 60 7 dirAbortsArgs) dirAborts0k173y = true := leafX_fast (tblFind_ok ctL_ok) (by kernel_rfl)
theorem dirAborts0h182 : DT.leaf.check (okKX Try.prog dirAbortsKn (fctOrc dirAbortsF0) [] dirAbortsET 100000 60 7 dirAbortsArgs) dirAborts0k181y = true := leafX_fast (tblFind_ok ctL_ok) (by kernel_rfl)
theorem dirAborts0h190 : DT.leaf.check (okKX Try.prog dirAbortsKn (fctOrc dirAbortsF0) [] dirAbortsET 100000 60 7 dirAbortsArgs) dirAborts0k189y = true := leafX_fast (tblFind_ok ctL_ok) (by kernel_rfl)
theorem dirAborts0h198 : DT.leaf.check (okKX Try.prog dirAbortsKn (fctOrc dirAbortsF0) [] dirAbortsET 100000 60 7 dirAbortsArgs) dirAborts0k197y = true := leafX_fast (tblFind_ok ctL_ok) (by kernel_rfl)
theorem dirAborts0h206 : DT.leaf.check (okKX Try.prog dirAbortsKn (fctOrc dirAbortsF0) [] dirAbortsET 100000 60 7 dirAbortsArgs) dirAborts0k205y = true := leafX_fast (tblFind_ok ctL_ok) (by kernel_rfl)
theorem dirAborts0h214 : DT.leaf.check (okKX Try.prog dirAbortsKn (fctOrc dirAbortsF0) [] dirAbortsET 100000 60 7 dirAbortsArgs) dirAborts0k213y = true := leafX_fast (tblFind_ok ctL_ok) (by kernel_rfl)
theorem dirAborts0h222 : DT.leaf.check (okKX Try.prog dirAbortsKn (fctOrc dirAbortsF0) [] dirAbortsET 100000 60 7 dirAbortsArgs) dirAborts0k221y = true := leafX_fast (tblFind_ok ctL_ok) (by kernel_rfl)
theorem dirAborts0h230 : DT.leaf.check (okKX Try.prog dirAbortsKn (fctOrc dirAbortsF0) [] dirAbortsET 100000 60 7 dirAbortsArgs) dirAborts0k229y = true := leafX_fast (tblFind_ok ctL_ok) (by kernel_rfl)
theorem dirAborts0h238 : DT.leaf.check (okKX Try.prog dirAbortsKn (fctOrc dirAbortsF0) [] dirAbortsET 100000 60 7 dirAbortsArgs) dirAborts0k237y = true := leafX_fast (tblFind_ok ctL_ok) (by kernel_rfl)
theorem dirAborts0h246 : DT.leaf.check (okKX Try.prog dirAbortsKn (fctOrc dirAbortsF0) [] dirAbortsET 100000 60 7 dirAbortsArgs) dirAborts0k245y = true := leafX_fast (tblFind_ok ctL_ok) (by kernel_rfl)
theorem dirAborts0h253 : DT.leaf.check (okKX Try.prog dirAbortsKn (fctOrc dirAbortsF0) [] dirAbortsET 100000 60 7 dirAbortsArgs) dirAborts0k252y = true := leafX_fast (tblFind_ok ctL_ok) (by kernel_rfl)
theorem dirAborts0h261 : DT.leaf.check (okKX Try.prog dirAbortsKn (fctOrc dirAbortsF0) [] dirAbortsET 100000 60 7 dirAbortsArgs) dirAborts0k260y = true := leafX_fast (tblFind_ok ctL_ok) (by kernel_rfl)
theorem dirAborts0h269 : DT.leaf.check (okKX Try.prog dirAbortsKn (fctOrc dirAbortsF0) [] dirAbortsET 100000 60 7 dirAbortsArgs) dirAborts0k268y = true := leafX_fast (tblFind_ok ctL_ok) (by kernel_rfl)
theorem dirAborts0h277 : DT.leaf.check (okKX Try.prog dirAbortsKn (fctOrc dirAbortsF0) [] dirAbortsET 100000 60 7 dirAbortsArgs) dirAborts0k276y = true := leafX_fast (tblFind_ok ctL_ok) (by kernel_rfl)
theorem dirAborts0h285 : DT.leaf.check (okKX Try.prog dirAbortsKn (fctOrc dirAbortsF0) [] dirAbortsET 100000 60 7 dirAbortsArgs) dirAborts0k284y = true := leafX_fast (tblFind_ok ctL_ok) (by kernel_rfl)
theorem dirAborts0h293 : DT.leaf.check (okKX Try.prog dirAbortsKn (fctOrc dirAbortsF0) [] dirAbortsET 100000 60 7 dirAbortsArgs) dirAborts0k292y = true := leafX_fast (tblFind_ok ctL_ok) (by kernel_rfl)
theorem dirAborts0h301 : DT.leaf.check (okKX Try.prog dirAbortsKn (fctOrc dirAbortsF0) [] dirAbortsET 100000 60 7 dirAbortsArgs) dirAborts0k300y = true := leafX_fast (tblFind_ok ctL_ok) (by kernel_rfl)
theorem dirAborts0h307 : DT.leaf.check (okKX Try.prog dirAbortsKn (fctOrc dirAbortsF0) [] dirAbortsET 100000 60 7 dirAbortsArgs) dirAborts0k5n = true := leafX_fast (tblFind_ok ctL_ok) (by kernel_rfl)
end Go.Proofs.Ytleengigapmnpaa
