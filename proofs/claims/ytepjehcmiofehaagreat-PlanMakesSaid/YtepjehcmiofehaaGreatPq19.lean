/- The document's directory: what a change does; done: a move. The document's directory: done: a split. -/
import Derived.Test.YtepjehcmiofehaaGreatPq5
namespace Go.Proofs.YtepjehcmiofehaaGreat
open Go.RowKit
set_option linter.unusedVariables false
set_option linter.unusedSimpArgs false
end Go.Proofs.YtepjehcmiofehaaGreat
namespace Go.Proofs.YtepjehcmiofehaaGreat
open Go.RowKit
set_option linter.unusedVariables false
set_option linter.unusedSimpArgs false
theorem Whl.tou' {x n : Nat} {w w' : World} {t : TypeId} {cs : Array Value} (h : Whl w x t cs) (ht : Touch (fun k => k = n) w w') (hne : x ≠ n) : Whl w' x t cs := (ht.block x h.low hne).trans h
end Go.Proofs.YtepjehcmiofehaaGreat
