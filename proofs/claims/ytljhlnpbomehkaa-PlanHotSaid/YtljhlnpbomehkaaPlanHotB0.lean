/- PlanHot: the walk of the statement, by the evaluator with forks, trees of questions, facts. -/
import Derived.Test.YtljhlnpbomehkaaEwS
import Derived.Test.YtljhlnpbomehkaaEwTt
import Derived.Test.YtljhlnpbomehkaaEwXd
import Derived.Test.YtljhlnpbomehkaaEwR
import Derived.Test.YtljhlnpbomehkaaEwAs
import Derived.Test.YtljhlnpbomehkaaEwSk
import Derived.Test.YtljhlnpbomehkaaPlanK
import Derived.Test.YtljhlnpbomehkaaChangeEqW
import Derived.Test.YtljhlnpbomehkaaPlanHotA
import Derived.ProofKit
namespace Go.Proofs.Ytljhlnpbomehkaa
open Go.RowKit
set_option linter.unusedVariables false
set_option linter.unusedSimpArgs false
set_option maxRecDepth 100000

theorem planHot0h1 : DT.leaf.check (okT Try.prog (orcOr (fctOrc planHotF0) (orcOr (arcOrc planHotA0) (orcOr (mncOrc planHotM0) (noOrc)))) planHotHook planHotCut [1] planHotET 100000 (cFnL Try.prog) (knTabW 16) 90 5 planHotArgs ⟨.lf, 0, 0, [], []⟩) planHot0k0y = true := check_leaf (by kernel_rfl)
theorem planHot3h1 : DT.leaf.check (okT Try.prog (orcOr (fctOrc planHotF3) (orcOr (arcOrc planHotA3) (orcOr (mncOrc planHotM3) (noOrc)))) planHotHook planHotCut [1] planHotET 100000 (cFnL Try.prog) (knTabW 16) 90 5 planHotArgs ⟨.lf, 0, 0, [], []⟩) planHot3k0y = true := check_leaf (by kernel_rfl)
theorem planHot4h6 : DT.leaf.check (okT Try.prog (orcOr (fctOrc planHotF4) (orcOr (arcOrc planHotA4) (orcOr (mncOrc planHotM4) (noOrc)))) planHotHook planHotCut [1] planHotET 100000 (cFnL Try.prog) (knTabW 16) 90 5 planHotArgs ⟨.lf, 0, 0, [], []⟩) planHot4k5y = true := check_leaf (by kernel_rfl)
theorem planHot5h3 : DT.leaf.check (okT Try.prog (orcOr (fctOrc planHotF5) (orcOr (arcOrc planHotA5) (orcOr (mncOrc planHotM5) (noOrc)))) planHotHook planHotCut [1] planHotET 100000 (cFnL Try.prog) (knTabW 16) 90 5 planHotArgs ⟨.lf, 0, 0, [], []⟩) planHot5k1n = true := check_leaf (by kernel_rfl)
theorem planHot6h4 : DT.leaf.check (okT Try.prog (orcOr (fctOrc planHotF6) (orcOr (arcOrc planHotA6) (orcOr (mncOrc planHotM6) (noOrc)))) planHotHook planHotCut [1] planHotET 100000 (cFnL Try.prog) (knTabW 16) 90 5 planHotArgs ⟨.lf, 0, 0, [], []⟩) planHot6k0n = true := check_leaf (by kernel_rfl)
theorem planHot7h7 : DT.leaf.check (okT Try.prog (orcOr (fctOrc planHotF7) (orcOr (arcOrc planHotA7) (orcOr (mncOrc planHotM7) (noOrc)))) planHotHook planHotCut [1] planHotET 100000 (cFnL Try.prog) (knTabW 16) 90 5 planHotArgs ⟨.lf, 0, 0, [], []⟩) planHot7k5n = true := check_leaf (by kernel_rfl)
end Go.Proofs.Ytljhlnpbomehkaa
