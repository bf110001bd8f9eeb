/- PlanColdT: the walk of the statement, by the evaluator with forks, trees of questions, facts. -/
import Derived.Test.YtljhlnpbomehkaaEwM8
import Derived.Test.YtljhlnpbomehkaaPlanK
import Derived.Test.YtljhlnpbomehkaaPlanColdTA
import Derived.ProofKit
namespace Go.Proofs.Ytljhlnpbomehkaa
open Go.RowKit
set_option linter.unusedVariables false
set_option linter.unusedSimpArgs false
set_option maxRecDepth 100000

theorem planColdT0h0 : DT.leaf.check (okT Try.prog (orcOr (fctOrc planColdTF0) (orcOr (arcOrc planColdTA0) (orcOr (mncOrc planColdTM0) (noOrc)))) planColdTHook planColdTCut [] planColdTET 100000 (cFnL Try.prog) (knTabW 16) 90 6 planColdTArgs ⟨.lf, 0, 0, [], []⟩) planColdTKB0 = true := check_leaf (by kernel_rfl)
theorem planColdT4h0 : DT.leaf.check (okT Try.prog (orcOr (fctOrc planColdTF4) (orcOr (arcOrc planColdTA4) (orcOr (mncOrc planColdTM4) (noOrc)))) planColdTHook planColdTCut [] planColdTET 100000 (cFnL Try.prog) (knTabW 16) 90 6 planColdTArgs ⟨.lf, 0, 0, [], []⟩) planColdTKB4 = true := check_leaf (by kernel_rfl)
theorem planColdT6h4 : DT.leaf.check (okT Try.prog (orcOr (fctOrc planColdTF6) (orcOr (arcOrc planColdTA6) (orcOr (mncOrc planColdTM6) (noOrc)))) planColdTHook planColdTCut [] planColdTET 100000 (cFnL Try.prog) (knTabW 16) 90 6 planColdTArgs ⟨.lf, 0, 0, [], []⟩) planColdT6k0n = true := check_leaf (by kernel_rfl)
theorem planColdT8h1 : DT.leaf.check (okT Try.prog (orcOr (fctOrc planColdTF8) (orcOr (arcOrc planColdTA8) (orcOr (mncOrc planColdTM8) (noOrc)))) planColdTHook planColdTCut [] planColdTET 100000 (cFnL Try.prog) (knTabW 16) 90 6 planColdTArgs ⟨.lf, 0, 0, [], []⟩) planColdT8k0y = true := check_leaf (by kernel_rfl)
theorem planColdT10h2 : DT.leaf.check (okT Try.prog (orcOr (fctOrc planColdTF10) (orcOr (arcOrc planColdTA10) (orcOr (mncOrc planColdTM10) (noOrc)))) planColdTHook planColdTCut [] planColdTET 100000 (cFnL Try.prog) (knTabW 16) 90 6 planColdTArgs ⟨.lf, 0, 0, [], []⟩) planColdT10k1y = true := check_leaf (by kernel_rfl)
theorem planColdT11h2 : DT.leaf.check (okT Try.prog (orcOr (fctOrc planColdTF11) (orcOr (arcOrc planColdTA11) (orcOr (mncOrc planColdTM11) (noOrc)))) planColdTHook planColdTCut [] planColdTET 100000 (cFnL Try.prog) (knTabW 16) 90 6 planColdTArgs ⟨.lf, 0, 0, [], []⟩) planColdT11k1y = true := check_leaf (by kernel_rfl)
end Go.Proofs.Ytljhlnpbomehkaa
