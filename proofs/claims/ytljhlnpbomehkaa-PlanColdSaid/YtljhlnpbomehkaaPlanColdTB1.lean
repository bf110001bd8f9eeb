/- PlanColdT: the walk of the statement, by the evaluator with forks, trees of questions, facts. -/
import Derived.Test.YtljhlnpbomehkaaEwM8
import Derived.Test.YtljhlnpbomehkaaPlanK
import Derived.Test.YtljhlnpbomehkaaPlanColdTA
import Derived.ProofKit
namespace Go.Proofs.Ytljhlnpbomehkaa
open Go.RowKit
set_option linter.unusedVariables false
set_option linter.unusedSimpArgs false
set_option maxRecDepth 100000

theorem planColdT1h0 : DT.leaf.check (okT Try.prog (orcOr (fctOrc planColdTF1) (orcOr (arcOrc planColdTA1) (orcOr (mncOrc planColdTM1) (noOrc)))) planColdTHook planColdTCut [] planColdTET 100000 (cFnL Try.prog) (knTabW 16) 90 6 planColdTArgs ⟨.lf, 0, 0, [], []⟩) planColdTKB1 = true := check_leaf (by kernel_rfl)
theorem planColdT5h0 : DT.leaf.check (okT Try.prog (orcOr (fctOrc planColdTF5) (orcOr (arcOrc planColdTA5) (orcOr (mncOrc planColdTM5) (noOrc)))) planColdTHook planColdTCut [] planColdTET 100000 (cFnL Try.prog) (knTabW 16) 90 6 planColdTArgs ⟨.lf, 0, 0, [], []⟩) planColdTKB5 = true := check_leaf (by kernel_rfl)
theorem planColdT7h2 : DT.leaf.check (okT Try.prog (orcOr (fctOrc planColdTF7) (orcOr (arcOrc planColdTA7) (orcOr (mncOrc planColdTM7) (noOrc)))) planColdTHook planColdTCut [] planColdTET 100000 (cFnL Try.prog) (knTabW 16) 90 6 planColdTArgs ⟨.lf, 0, 0, [], []⟩) planColdT7k1y = true := check_leaf (by kernel_rfl)
theorem planColdT8h2 : DT.leaf.check (okT Try.prog (orcOr (fctOrc planColdTF8) (orcOr (arcOrc planColdTA8) (orcOr (mncOrc planColdTM8) (noOrc)))) planColdTHook planColdTCut [] planColdTET 100000 (cFnL Try.prog) (knTabW 16) 90 6 planColdTArgs ⟨.lf, 0, 0, [], []⟩) planColdT8k0n = true := check_leaf (by kernel_rfl)
theorem planColdT10h4 : DT.leaf.check (okT Try.prog (orcOr (fctOrc planColdTF10) (orcOr (arcOrc planColdTA10) (orcOr (mncOrc planColdTM10) (noOrc)))) planColdTHook planColdTCut [] planColdTET 100000 (cFnL Try.prog) (knTabW 16) 90 6 planColdTArgs ⟨.lf, 0, 0, [], []⟩) planColdT10k3y = true := check_leaf (by kernel_rfl)
theorem planColdT11h4 : DT.leaf.check (okT Try.prog (orcOr (fctOrc planColdTF11) (orcOr (arcOrc planColdTA11) (orcOr (mncOrc planColdTM11) (noOrc)))) planColdTHook planColdTCut [] planColdTET 100000 (cFnL Try.prog) (knTabW 16) 90 6 planColdTArgs ⟨.lf, 0, 0, [], []⟩) planColdT11k3y = true := check_leaf (by kernel_rfl)
end Go.Proofs.Ytljhlnpbomehkaa
