/- PlanHot: the walk of the statement, by the evaluator with forks, trees of questions, facts. -/
import Derived.Test.YtljhlnpbomehkaaEwS
import Derived.Test.YtljhlnpbomehkaaEwTt
import Derived.Test.YtljhlnpbomehkaaEwXd
import Derived.Test.YtljhlnpbomehkaaEwR
import Derived.Test.YtljhlnpbomehkaaEwAs
import Derived.Test.YtljhlnpbomehkaaEwSk
import Derived.Test.YtljhlnpbomehkaaPlanK
import Derived.Test.YtljhlnpbomehkaaChangeEqW
import Derived.Test.YtljhlnpbomehkaaPlanHotA
import Derived.ProofKit
namespace Go.Proofs.Ytljhlnpbomehkaa
open Go.RowKit
set_option linter.unusedVariables false
set_option linter.unusedSimpArgs false
set_option maxRecDepth 100000

theorem planHot1h0 : DT.leaf.check (okT Try.prog (orcOr (fctOrc planHotF1) (orcOr (arcOrc planHotA1) (orcOr (mncOrc planHotM1) (noOrc)))) planHotHook planHotCut [1] planHotET 100000 (cFnL Try.prog) (knTabW 16) 90 5 planHotArgs ⟨.lf, 0, 0, [], []⟩) planHotKB1 = true := check_leaf (by kernel_rfl)
theorem planHot4h3 : DT.leaf.check (okT Try.prog (orcOr (fctOrc planHotF4) (orcOr (arcOrc planHotA4) (orcOr (mncOrc planHotM4) (noOrc)))) planHotHook planHotCut [1] planHotET 100000 (cFnL Try.prog) (knTabW 16) 90 5 planHotArgs ⟨.lf, 0, 0, [], []⟩) planHot4k2y = true := check_leaf (by kernel_rfl)
theorem planHot4h8 : DT.leaf.check (okT Try.prog (orcOr (fctOrc planHotF4) (orcOr (arcOrc planHotA4) (orcOr (mncOrc planHotM4) (noOrc)))) planHotHook planHotCut [1] planHotET 100000 (cFnL Try.prog) (knTabW 16) 90 5 planHotArgs ⟨.lf, 0, 0, [], []⟩) planHot4k0n = true := check_leaf (by kernel_rfl)
theorem planHot6h2 : DT.leaf.check (okT Try.prog (orcOr (fctOrc planHotF6) (orcOr (arcOrc planHotA6) (orcOr (mncOrc planHotM6) (noOrc)))) planHotHook planHotCut [1] planHotET 100000 (cFnL Try.prog) (knTabW 16) 90 5 planHotArgs ⟨.lf, 0, 0, [], []⟩) planHot6k1y = true := check_leaf (by kernel_rfl)
theorem planHot7h4 : DT.leaf.check (okT Try.prog (orcOr (fctOrc planHotF7) (orcOr (arcOrc planHotA7) (orcOr (mncOrc planHotM7) (noOrc)))) planHotHook planHotCut [1] planHotET 100000 (cFnL Try.prog) (knTabW 16) 90 5 planHotArgs ⟨.lf, 0, 0, [], []⟩) planHot7k2n = true := check_leaf (by kernel_rfl)
end Go.Proofs.Ytljhlnpbomehkaa
