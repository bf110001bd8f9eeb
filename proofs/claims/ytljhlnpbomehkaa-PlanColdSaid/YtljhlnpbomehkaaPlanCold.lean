/- PlanCold: the walk, of one host and of two. -/
import Derived.Test.YtljhlnpbomehkaaPlanColdT
import Derived.Test.YtljhlnpbomehkaaPlanColdF
namespace Go.Proofs.Ytljhlnpbomehkaa
open Go.RowKit
theorem walkPlanCold (a0 a1 a2 : Int) (o : Bool) (w0 : (Lit.int .i64 a0).wf = true) (w1 : (Lit.int .i64 a1).wf = true) (w2 : (Lit.int .i64 a2).wf = true) (w : World) :
    Calls Try.prog 6 #[.int .i64 a0, .int .i64 a1, .int .i64 a2, .bool o] w fun e' w' => e' = .returned (.bool true) ∧ Below w.heap.size w w' := by
  cases o with
  | true => exact walkPlanColdT a0 a1 a2 w0 w1 w2 w
  | false => exact walkPlanColdF a0 a1 a2 w0 w1 w2 w
end Go.Proofs.Ytljhlnpbomehkaa
