/- PlanColdF: the walk of the statement, by the evaluator with forks, trees of questions, facts. -/
import Derived.Test.YtljhlnpbomehkaaEwM8
import Derived.Test.YtljhlnpbomehkaaPlanK
import Derived.Test.YtljhlnpbomehkaaPlanColdFA
import Derived.ProofKit
namespace Go.Proofs.Ytljhlnpbomehkaa
open Go.RowKit
set_option linter.unusedVariables false
set_option linter.unusedSimpArgs false
set_option maxRecDepth 100000

theorem planColdF1h0 : DT.leaf.check (okT Try.prog (orcOr (fctOrc planColdFF1) (orcOr (arcOrc planColdFA1) (orcOr (mncOrc planColdFM1) (noOrc)))) planColdFHook planColdFCut [] planColdFET 100000 (cFnL Try.prog) (knTabW 16) 90 6 planColdFArgs ⟨.lf, 0, 0, [], []⟩) planColdFKB1 = true := check_leaf (by kernel_rfl)
theorem planColdF5h0 : DT.leaf.check (okT Try.prog (orcOr (fctOrc planColdFF5) (orcOr (arcOrc planColdFA5) (orcOr (mncOrc planColdFM5) (noOrc)))) planColdFHook planColdFCut [] planColdFET 100000 (cFnL Try.prog) (knTabW 16) 90 6 planColdFArgs ⟨.lf, 0, 0, [], []⟩) planColdFKB5 = true := check_leaf (by kernel_rfl)
theorem planColdF6h7 : DT.leaf.check (okT Try.prog (orcOr (fctOrc planColdFF6) (orcOr (arcOrc planColdFA6) (orcOr (mncOrc planColdFM6) (noOrc)))) planColdFHook planColdFCut [] planColdFET 100000 (cFnL Try.prog) (knTabW 16) 90 6 planColdFArgs ⟨.lf, 0, 0, [], []⟩) planColdF6k6y = true := check_leaf (by kernel_rfl)
theorem planColdF7h5 : DT.leaf.check (okT Try.prog (orcOr (fctOrc planColdFF7) (orcOr (arcOrc planColdFA7) (orcOr (mncOrc planColdFM7) (noOrc)))) planColdFHook planColdFCut [] planColdFET 100000 (cFnL Try.prog) (knTabW 16) 90 6 planColdFArgs ⟨.lf, 0, 0, [], []⟩) planColdF7k1n = true := check_leaf (by kernel_rfl)
theorem planColdF8h4 : DT.leaf.check (okT Try.prog (orcOr (fctOrc planColdFF8) (orcOr (arcOrc planColdFA8) (orcOr (mncOrc planColdFM8) (noOrc)))) planColdFHook planColdFCut [] planColdFET 100000 (cFnL Try.prog) (knTabW 16) 90 6 planColdFArgs ⟨.lf, 0, 0, [], []⟩) planColdF8k2n = true := check_leaf (by kernel_rfl)
theorem planColdF9h3 : DT.leaf.check (okT Try.prog (orcOr (fctOrc planColdFF9) (orcOr (arcOrc planColdFA9) (orcOr (mncOrc planColdFM9) (noOrc)))) planColdFHook planColdFCut [] planColdFET 100000 (cFnL Try.prog) (knTabW 16) 90 6 planColdFArgs ⟨.lf, 0, 0, [], []⟩) planColdF9k2y = true := check_leaf (by kernel_rfl)
theorem planColdF9h8 : DT.leaf.check (okT Try.prog (orcOr (fctOrc planColdFF9) (orcOr (arcOrc planColdFA9) (orcOr (mncOrc planColdFM9) (noOrc)))) planColdFHook planColdFCut [] planColdFET 100000 (cFnL Try.prog) (knTabW 16) 90 6 planColdFArgs ⟨.lf, 0, 0, [], []⟩) planColdF9k6n = true := check_leaf (by kernel_rfl)
theorem planColdF10h7 : DT.leaf.check (okT Try.prog (orcOr (fctOrc planColdFF10) (orcOr (arcOrc planColdFA10) (orcOr (mncOrc planColdFM10) (noOrc)))) planColdFHook planColdFCut [] planColdFET 100000 (cFnL Try.prog) (knTabW 16) 90 6 planColdFArgs ⟨.lf, 0, 0, [], []⟩) planColdF10k6y = true := check_leaf (by kernel_rfl)
theorem planColdF11h5 : DT.leaf.check (okT Try.prog (orcOr (fctOrc planColdFF11) (orcOr (arcOrc planColdFA11) (orcOr (mncOrc planColdFM11) (noOrc)))) planColdFHook planColdFCut [] planColdFET 100000 (cFnL Try.prog) (knTabW 16) 90 6 planColdFArgs ⟨.lf, 0, 0, [], []⟩) planColdF11k1n = true := check_leaf (by kernel_rfl)
end Go.Proofs.Ytljhlnpbomehkaa
