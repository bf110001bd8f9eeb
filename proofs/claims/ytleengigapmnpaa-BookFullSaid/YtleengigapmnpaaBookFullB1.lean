/- BookFull: the walk of the statement, by the evaluator, trees of questions, facts. -/
import Derived.Test.YtleengigapmnpaaEvS
import Derived.Test.YtleengigapmnpaaEvZc
import Derived.Test.YtleengigapmnpaaBookFullA
import Derived.ProofKit
namespace Go.Proofs.Ytleengigapmnpaa
open Go.RowKit
set_option linter.unusedVariables false
set_option linter.unusedSimpArgs false
set_option maxRecDepth 100000

theorem bookFull0h4 : DT.leaf.check (okKX Try.prog bookFullKn (fctOrc bookFullF0) [1] bookFullET 100000 60 3 bookFullArgs) bookFull0k3y = true := leafX_fast (table_self _) (by kernel_rfl)
theorem bookFull0h18 : DT.leaf.check (okKX Try.prog bookFullKn (fctOrc bookFullF0) [1] bookFullET 100000 60 3 bookFullArgs) bookFull0k14n = true := leafX_fast (table_self _) (by kernel_rfl)
end Go.Proofs.Ytleengigapmnpaa
