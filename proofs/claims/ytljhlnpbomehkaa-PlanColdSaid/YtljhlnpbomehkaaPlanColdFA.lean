/- PlanColdF: the walk of the statement, by the evaluator with forks, trees of questions, facts. -/
import Derived.Test.YtljhlnpbomehkaaEwM8
import Derived.Test.YtljhlnpbomehkaaPlanK
import Derived.ProofKit
namespace Go.Proofs.Ytljhlnpbomehkaa
open Go.RowKit
set_option linter.unusedVariables false
set_option linter.unusedSimpArgs false
set_option maxRecDepth 100000

def planColdFSym (a0 : Int) (a1 : Int) (a2 : Int) : List (Nat × Value) := [(0, .int .i64 a0), (1, .int .i64 a1), (2, .int .i64 a2), (4, .int .i64 (a0 + a1)), (5, .int .i64 (a1 + a1)), (6, .int .i64 ((a0 + a1) + a0)), (7, .int .i64 ((a0 + a1) + a1))]
def planColdFET : ET := []
def planColdFArgs : Array Value := #[.chan (some 0), .chan (some 1), .chan (some 2), .bool false]
def planColdFHook (f : FuncId) : Option (Array Value → LM Value) := none
def planColdFCut (f : FuncId) : Bool := hasN [8, 17, 19, 21, 22, 35, 36, 40, 59, 66] f
theorem planColdFHook_ok : ∀ f m, planColdFHook f = some m → FunOKL Try.prog f m := by
  intro f m h
  unfold planColdFHook at h
  cases h
def planColdFKB0 : KB := [(0, ⟨-9223372036854775808, -1, []⟩), (1, ⟨-9223372036854775808, 9223372036854775807, []⟩), (2, ⟨-9223372036854775808, 9223372036854775807, []⟩)]
def planColdFF0 : Fct := []
def planColdFA0 : Arc := []
def planColdFM0 : Mnc := []
def planColdFKB1 : KB := [(0, ⟨1001, 9223372036854775807, []⟩), (1, ⟨-9223372036854775808, 9223372036854775807, []⟩), (2, ⟨-9223372036854775808, 9223372036854775807, []⟩)]
def planColdFF1 : Fct := []
def planColdFA1 : Arc := []
def planColdFM1 : Mnc := []
def planColdFKB2 : KB := [(0, ⟨0, 1000, []⟩), (1, ⟨-9223372036854775808, -1, []⟩), (2, ⟨-9223372036854775808, 9223372036854775807, []⟩)]
def planColdFF2 : Fct := []
def planColdFA2 : Arc := []
def planColdFM2 : Mnc := []
def planColdFKB3 : KB := [(0, ⟨0, 1000, []⟩), (1, ⟨1001, 9223372036854775807, []⟩), (2, ⟨-9223372036854775808, 9223372036854775807, []⟩)]
def planColdFF3 : Fct := []
def planColdFA3 : Arc := []
def planColdFM3 : Mnc := []
def planColdFKB4 : KB := [(0, ⟨0, 1000, []⟩), (1, ⟨0, 1000, []⟩), (2, ⟨-9223372036854775808, -1, []⟩)]
def planColdFF4 : Fct := []
def planColdFA4 : Arc := []
def planColdFM4 : Mnc := []
def planColdFKB5 : KB := [(0, ⟨0, 1000, []⟩), (1, ⟨0, 1000, []⟩), (2, ⟨3001, 9223372036854775807, []⟩)]
def planColdFF5 : Fct := []
def planColdFA5 : Arc := []
def planColdFM5 : Mnc := []
def planColdFKB6 : KB := [(0, ⟨0, 1000, []⟩), (1, ⟨0, 1000, []⟩), (2, ⟨0, 3000, []⟩), (4, ⟨1, 1999, []⟩), (5, ⟨2, 2000, []⟩), (6, ⟨1, 2998, []⟩), (7, ⟨2, 2999, []⟩)]
def planColdFF6 : Fct := [(.lss, .chan (some 5), .chan (some 1), false), (.geq, .chan (some 4), .chan (some 2), false), (.lss, .chan (some 4), .chan (some 2), true), (.lss, .chan (some 6), .chan (some 4), false), (.lss, .chan (some 7), .chan (some 4), false)]
def planColdFA6 : Arc := [(.add, .int .i64 (0), .chan (some 0), .chan (some 0)), (.add, .chan (some 0), .chan (some 1), .chan (some 4)), (.add, .int .i64 (0), .chan (some 1), .chan (some 1)), (.add, .chan (some 1), .chan (some 1), .chan (some 5)), (.add, .chan (some 4), .chan (some 0), .chan (some 6)), (.add, .chan (some 4), .chan (some 1), .chan (some 7))]
def planColdFM6 : Mnc := [(false, .chan (some 0), .int .i64 (0), .chan (some 0)), (true, .chan (some 0), .int .i64 (1099511627776), .chan (some 0)), (false, .chan (some 1), .int .i64 (0), .chan (some 1)), (true, .chan (some 1), .int .i64 (1099511627776), .chan (some 1))]
def planColdF6k0y : KB := planColdFKB6.put 0 ⟨0, 0, []⟩
def planColdF6k0n : KB := planColdFKB6.put 0 ⟨1, 1000, []⟩
def planColdF6k1y : KB := planColdF6k0y.put 1 ⟨0, 0, []⟩
def planColdF6k1n : KB := planColdF6k0y.put 1 ⟨1, 1000, []⟩
def planColdF6k2y : KB := planColdF6k1y.put 2 ⟨0, 0, []⟩
def planColdF6k2n : KB := planColdF6k1y.put 2 ⟨1, 3000, []⟩
def planColdF6k6y : KB := planColdF6k0n.put 1 ⟨0, 0, []⟩
def planColdF6k6n : KB := planColdF6k0n.put 1 ⟨1, 1000, []⟩
def planColdFKB7 : KB := [(0, ⟨0, 1000, []⟩), (1, ⟨0, 1000, []⟩), (2, ⟨0, 3000, []⟩), (4, ⟨1, 1999, []⟩), (5, ⟨2, 2000, []⟩), (6, ⟨1, 2998, []⟩), (7, ⟨2, 2999, []⟩)]
def planColdFF7 : Fct := [(.lss, .chan (some 5), .chan (some 1), false), (.geq, .chan (some 4), .chan (some 2), true), (.lss, .chan (some 4), .chan (some 2), false), (.lss, .chan (some 6), .chan (some 4), false), (.lss, .chan (some 7), .chan (some 4), false)]
def planColdFA7 : Arc := [(.add, .int .i64 (0), .chan (some 0), .chan (some 0)), (.add, .chan (some 0), .chan (some 1), .chan (some 4)), (.add, .int .i64 (0), .chan (some 1), .chan (some 1)), (.add, .chan (some 1), .chan (some 1), .chan (some 5)), (.add, .chan (some 4), .chan (some 0), .chan (some 6)), (.add, .chan (some 4), .chan (some 1), .chan (some 7))]
def planColdFM7 : Mnc := [(false, .chan (some 0), .int .i64 (0), .chan (some 0)), (true, .chan (some 0), .int .i64 (1099511627776), .chan (some 0)), (false, .chan (some 1), .int .i64 (0), .chan (some 1)), (true, .chan (some 1), .int .i64 (1099511627776), .chan (some 1))]
def planColdF7k0y : KB := planColdFKB7.put 0 ⟨0, 0, []⟩
def planColdF7k0n : KB := planColdFKB7.put 0 ⟨1, 1000, []⟩
def planColdF7k1y : KB := planColdF7k0y.put 1 ⟨0, 0, []⟩
def planColdF7k1n : KB := planColdF7k0y.put 1 ⟨1, 1000, []⟩
def planColdF7k2y : KB := planColdF7k1y.put 2 ⟨0, 0, []⟩
def planColdF7k2n : KB := planColdF7k1y.put 2 ⟨1, 3000, []⟩
def planColdF7k6y : KB := planColdF7k0n.put 1 ⟨0, 0, []⟩
def planColdF7k6n : KB := planColdF7k0n.put 1 ⟨1, 1000, []⟩
def planColdFKB8 : KB := [(0, ⟨0, 1000, []⟩), (1, ⟨0, 1000, []⟩), (2, ⟨0, 3000, []⟩), (4, ⟨0, 2000, []⟩), (6, ⟨0, 3000, []⟩)]
def planColdFF8 : Fct := [(.geq, .chan (some 4), .chan (some 2), false), (.lss, .chan (some 4), .chan (some 2), true), (.lss, .chan (some 6), .chan (some 4), false), (.lss, .chan (some 4), .chan (some 1), false)]
def planColdFA8 : Arc := [(.add, .int .i64 (0), .chan (some 0), .chan (some 0)), (.add, .chan (some 0), .chan (some 1), .chan (some 4)), (.add, .int .i64 (0), .chan (some 1), .chan (some 1)), (.add, .chan (some 4), .chan (some 0), .chan (some 6)), (.add, .chan (some 4), .chan (some 1), .chan (some 6)), (.add, .chan (some 1), .chan (some 1), .chan (some 4))]
def planColdFM8 : Mnc := [(false, .chan (some 0), .int .i64 (0), .chan (some 0)), (true, .chan (some 0), .int .i64 (1099511627776), .chan (some 0)), (false, .chan (some 1), .int .i64 (0), .chan (some 1)), (true, .chan (some 1), .int .i64 (1099511627776), .chan (some 1))]
def planColdF8k0y : KB := planColdFKB8.put 0 ⟨0, 0, []⟩
def planColdF8k0n : KB := planColdFKB8.put 0 ⟨1, 1000, []⟩
def planColdF8k1y : KB := planColdF8k0y.put 1 ⟨0, 0, []⟩
def planColdF8k1n : KB := planColdF8k0y.put 1 ⟨1, 1000, []⟩
def planColdF8k2y : KB := planColdF8k1y.put 2 ⟨0, 0, []⟩
def planColdF8k2n : KB := planColdF8k1y.put 2 ⟨1, 3000, []⟩
def planColdF8k6y : KB := planColdF8k0n.put 1 ⟨0, 0, []⟩
def planColdF8k6n : KB := planColdF8k0n.put 1 ⟨1, 1000, []⟩
def planColdFKB9 : KB := [(0, ⟨0, 1000, []⟩), (1, ⟨0, 1000, []⟩), (2, ⟨0, 3000, []⟩), (4, ⟨0, 2000, []⟩), (6, ⟨0, 3000, []⟩)]
def planColdFF9 : Fct := [(.geq, .chan (some 4), .chan (some 2), true), (.lss, .chan (some 4), .chan (some 2), false), (.lss, .chan (some 6), .chan (some 4), false), (.lss, .chan (some 4), .chan (some 1), false)]
def planColdFA9 : Arc := [(.add, .int .i64 (0), .chan (some 0), .chan (some 0)), (.add, .chan (some 0), .chan (some 1), .chan (some 4)), (.add, .int .i64 (0), .chan (some 1), .chan (some 1)), (.add, .chan (some 4), .chan (some 0), .chan (some 6)), (.add, .chan (some 4), .chan (some 1), .chan (some 6)), (.add, .chan (some 1), .chan (some 1), .chan (some 4))]
def planColdFM9 : Mnc := [(false, .chan (some 0), .int .i64 (0), .chan (some 0)), (true, .chan (some 0), .int .i64 (1099511627776), .chan (some 0)), (false, .chan (some 1), .int .i64 (0), .chan (some 1)), (true, .chan (some 1), .int .i64 (1099511627776), .chan (some 1))]
def planColdF9k0y : KB := planColdFKB9.put 0 ⟨0, 0, []⟩
def planColdF9k0n : KB := planColdFKB9.put 0 ⟨1, 1000, []⟩
def planColdF9k1y : KB := planColdF9k0y.put 1 ⟨0, 0, []⟩
def planColdF9k1n : KB := planColdF9k0y.put 1 ⟨1, 1000, []⟩
def planColdF9k2y : KB := planColdF9k1y.put 2 ⟨0, 0, []⟩
def planColdF9k2n : KB := planColdF9k1y.put 2 ⟨1, 3000, []⟩
def planColdF9k6y : KB := planColdF9k0n.put 1 ⟨0, 0, []⟩
def planColdF9k6n : KB := planColdF9k0n.put 1 ⟨1, 1000, []⟩
def planColdFKB10 : KB := [(0, ⟨0, 1000, []⟩), (1, ⟨0, 1000, []⟩), (2, ⟨0, 3000, []⟩), (4, ⟨1, 1999, []⟩), (5, ⟨0, 1998, []⟩), (6, ⟨2, 2999, []⟩), (7, ⟨1, 2998, []⟩)]
def planColdFF10 : Fct := [(.lss, .chan (some 5), .chan (some 1), false), (.geq, .chan (some 4), .chan (some 2), false), (.lss, .chan (some 4), .chan (some 2), true), (.lss, .chan (some 6), .chan (some 4), false), (.lss, .chan (some 7), .chan (some 4), false)]
def planColdFA10 : Arc := [(.add, .int .i64 (0), .chan (some 0), .chan (some 0)), (.add, .chan (some 0), .chan (some 1), .chan (some 4)), (.add, .int .i64 (0), .chan (some 1), .chan (some 1)), (.add, .chan (some 1), .chan (some 1), .chan (some 5)), (.add, .chan (some 4), .chan (some 0), .chan (some 6)), (.add, .chan (some 4), .chan (some 1), .chan (some 7))]
def planColdFM10 : Mnc := [(false, .chan (some 0), .int .i64 (0), .chan (some 0)), (true, .chan (some 0), .int .i64 (1099511627776), .chan (some 0)), (false, .chan (some 1), .int .i64 (0), .chan (some 1)), (true, .chan (some 1), .int .i64 (1099511627776), .chan (some 1))]
def planColdF10k0y : KB := planColdFKB10.put 0 ⟨0, 0, []⟩
def planColdF10k0n : KB := planColdFKB10.put 0 ⟨1, 1000, []⟩
def planColdF10k1y : KB := planColdF10k0y.put 1 ⟨0, 0, []⟩
def planColdF10k1n : KB := planColdF10k0y.put 1 ⟨1, 1000, []⟩
def planColdF10k2y : KB := planColdF10k1y.put 2 ⟨0, 0, []⟩
def planColdF10k2n : KB := planColdF10k1y.put 2 ⟨1, 3000, []⟩
def planColdF10k6y : KB := planColdF10k0n.put 1 ⟨0, 0, []⟩
def planColdF10k6n : KB := planColdF10k0n.put 1 ⟨1, 1000, []⟩
def planColdFKB11 : KB := [(0, ⟨0, 1000, []⟩), (1, ⟨0, 1000, []⟩), (2, ⟨0, 3000, []⟩), (4, ⟨1, 1999, []⟩), (5, ⟨0, 1998, []⟩), (6, ⟨2, 2999, []⟩), (7, ⟨1, 2998, []⟩)]
def planColdFF11 : Fct := [(.lss, .chan (some 5), .chan (some 1), false), (.geq, .chan (some 4), .chan (some 2), true), (.lss, .chan (some 4), .chan (some 2), false), (.lss, .chan (some 6), .chan (some 4), false), (.lss, .chan (some 7), .chan (some 4), false)]
def planColdFA11 : Arc := [(.add, .int .i64 (0), .chan (some 0), .chan (some 0)), (.add, .chan (some 0), .chan (some 1), .chan (some 4)), (.add, .int .i64 (0), .chan (some 1), .chan (some 1)), (.add, .chan (some 1), .chan (some 1), .chan (some 5)), (.add, .chan (some 4), .chan (some 0), .chan (some 6)), (.add, .chan (some 4), .chan (some 1), .chan (some 7))]
def planColdFM11 : Mnc := [(false, .chan (some 0), .int .i64 (0), .chan (some 0)), (true, .chan (some 0), .int .i64 (1099511627776), .chan (some 0)), (false, .chan (some 1), .int .i64 (0), .chan (some 1)), (true, .chan (some 1), .int .i64 (1099511627776), .chan (some 1))]
def planColdF11k0y : KB := planColdFKB11.put 0 ⟨0, 0, []⟩
def planColdF11k0n : KB := planColdFKB11.put 0 ⟨1, 1000, []⟩
def planColdF11k1y : KB := planColdF11k0y.put 1 ⟨0, 0, []⟩
def planColdF11k1n : KB := planColdF11k0y.put 1 ⟨1, 1000, []⟩
def planColdF11k2y : KB := planColdF11k1y.put 2 ⟨0, 0, []⟩
def planColdF11k2n : KB := planColdF11k1y.put 2 ⟨1, 3000, []⟩
def planColdF11k6y : KB := planColdF11k0n.put 1 ⟨0, 0, []⟩
def planColdF11k6n : KB := planColdF11k0n.put 1 ⟨1, 1000, []⟩
end Go.Proofs.Ytljhlnpbomehkaa
