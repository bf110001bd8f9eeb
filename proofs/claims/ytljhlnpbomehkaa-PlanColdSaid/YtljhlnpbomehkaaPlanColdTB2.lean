/- PlanColdT: the walk of the statement, by the evaluator with forks, trees of questions, facts. -/
import Derived.Test.YtljhlnpbomehkaaEwM8
import Derived.Test.YtljhlnpbomehkaaPlanK
import Derived.Test.YtljhlnpbomehkaaPlanColdTA
import Derived.ProofKit
namespace Go.Proofs.Ytljhlnpbomehkaa
open Go.RowKit
set_option linter.unusedVariables false
set_option linter.unusedSimpArgs false
set_option maxRecDepth 100000

theorem planColdT2h0 : DT.leaf.check (okT Try.prog (orcOr (fctOrc planColdTF2) (orcOr (arcOrc planColdTA2) (orcOr (mncOrc planColdTM2) (noOrc)))) planColdTHook planColdTCut [] planColdTET 100000 (cFnL Try.prog) (knTabW 16) 90 6 planColdTArgs ⟨.lf, 0, 0, [], []⟩) planColdTKB2 = true := check_leaf (by kernel_rfl)
theorem planColdT6h2 : DT.leaf.check (okT Try.prog (orcOr (fctOrc planColdTF6) (orcOr (arcOrc planColdTA6) (orcOr (mncOrc planColdTM6) (noOrc)))) planColdTHook planColdTCut [] planColdTET 100000 (cFnL Try.prog) (knTabW 16) 90 6 planColdTArgs ⟨.lf, 0, 0, [], []⟩) planColdT6k1y = true := check_leaf (by kernel_rfl)
theorem planColdT7h3 : DT.leaf.check (okT Try.prog (orcOr (fctOrc planColdTF7) (orcOr (arcOrc planColdTA7) (orcOr (mncOrc planColdTM7) (noOrc)))) planColdTHook planColdTCut [] planColdTET 100000 (cFnL Try.prog) (knTabW 16) 90 6 planColdTArgs ⟨.lf, 0, 0, [], []⟩) planColdT7k1n = true := check_leaf (by kernel_rfl)
theorem planColdT9h1 : DT.leaf.check (okT Try.prog (orcOr (fctOrc planColdTF9) (orcOr (arcOrc planColdTA9) (orcOr (mncOrc planColdTM9) (noOrc)))) planColdTHook planColdTCut [] planColdTET 100000 (cFnL Try.prog) (knTabW 16) 90 6 planColdTArgs ⟨.lf, 0, 0, [], []⟩) planColdT9k0y = true := check_leaf (by kernel_rfl)
theorem planColdT10h5 : DT.leaf.check (okT Try.prog (orcOr (fctOrc planColdTF10) (orcOr (arcOrc planColdTA10) (orcOr (mncOrc planColdTM10) (noOrc)))) planColdTHook planColdTCut [] planColdTET 100000 (cFnL Try.prog) (knTabW 16) 90 6 planColdTArgs ⟨.lf, 0, 0, [], []⟩) planColdT10k3n = true := check_leaf (by kernel_rfl)
theorem planColdT11h5 : DT.leaf.check (okT Try.prog (orcOr (fctOrc planColdTF11) (orcOr (arcOrc planColdTA11) (orcOr (mncOrc planColdTM11) (noOrc)))) planColdTHook planColdTCut [] planColdTET 100000 (cFnL Try.prog) (knTabW 16) 90 6 planColdTArgs ⟨.lf, 0, 0, [], []⟩) planColdT11k3n = true := check_leaf (by kernel_rfl)
end Go.Proofs.Ytljhlnpbomehkaa
