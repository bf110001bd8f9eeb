/- SeatDone: the walk of the statement: of its three kinds of 'to'. -/
import Derived.Test.YtllppcehncckfaaGreatDoorSeatDone9
import Derived.Test.YtllppcehncckfaaGreatDoorSeatDone10
import Derived.Test.YtllppcehncckfaaGreatDoorSeatDoneO
namespace Go.Proofs.YtllppcehncckfaaGreatDoor
open Go.RowKit
theorem walkSeatDone (a0 : Int) (a1 : Int) (w0 : (Lit.int .i64 a0).wf = true) (w1 : (Lit.int .i64 a1).wf = true) (s t : TypeId) (w : World) (g0 : w.heap[0]? = some (.cells gateLow.toArray s (0, 0))) (g1 : w.heap[1]? = some (.cells gateHigh.toArray t (0, 0))) :
    Calls Tryz.prog 3 #[.int .i64 a0, .int .i64 a1] w fun e' w' => e' = .returned (.bool true) ∧ Below w.heap.size w w' := by
  by_cases h9 : a1 = 9
  · subst h9; exact walkSeatDone9 a0 w0 s t w g0 g1
  by_cases h10 : a1 = 10
  · subst h10; exact walkSeatDone10 a0 w0 s t w g0 g1
  exact walkSeatDoneO a0 a1 w0 w1 (by omega) s t w g0 g1
end Go.Proofs.YtllppcehncckfaaGreatDoor
