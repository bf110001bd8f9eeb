/- PlanColdT: the walk of the statement, by the evaluator with forks, trees of questions, facts. -/
import Derived.Test.YtljhlnpbomehkaaEwM8
import Derived.Test.YtljhlnpbomehkaaPlanK
import Derived.ProofKit
namespace Go.Proofs.Ytljhlnpbomehkaa
open Go.RowKit
set_option linter.unusedVariables false
set_option linter.unusedSimpArgs false
set_option maxRecDepth 100000

def planColdTSym (a0 : Int) (a1 : Int) (a2 : Int) : List (Nat × Value) := [(0, .int .i64 a0), (1, .int .i64 a1), (2, .int .i64 a2), (4, .int .i64 ((-1) * a1)), (5, .int .i64 ((-1) * a0)), (6, .int .i64 (a0 + a1))]
def planColdTET : ET := []
def planColdTArgs : Array Value := #[.chan (some 0), .chan (some 1), .chan (some 2), .bool true]
def planColdTHook (f : FuncId) : Option (Array Value → LM Value) := none
def planColdTCut (f : FuncId) : Bool := hasN [8, 17, 19, 21, 22, 35, 36, 40, 59, 66] f
theorem planColdTHook_ok : ∀ f m, planColdTHook f = some m → FunOKL Try.prog f m := by
  intro f m h
  unfold planColdTHook at h
  cases h
def planColdTKB0 : KB := [(0, ⟨-9223372036854775808, -1, []⟩), (1, ⟨-9223372036854775808, 9223372036854775807, []⟩), (2, ⟨-9223372036854775808, 9223372036854775807, []⟩)]
def planColdTF0 : Fct := []
def planColdTA0 : Arc := []
def planColdTM0 : Mnc := []
def planColdTKB1 : KB := [(0, ⟨1001, 9223372036854775807, []⟩), (1, ⟨-9223372036854775808, 9223372036854775807, []⟩), (2, ⟨-9223372036854775808, 9223372036854775807, []⟩)]
def planColdTF1 : Fct := []
def planColdTA1 : Arc := []
def planColdTM1 : Mnc := []
def planColdTKB2 : KB := [(0, ⟨0, 1000, []⟩), (1, ⟨-9223372036854775808, -1, []⟩), (2, ⟨-9223372036854775808, 9223372036854775807, []⟩)]
def planColdTF2 : Fct := []
def planColdTA2 : Arc := []
def planColdTM2 : Mnc := []
def planColdTKB3 : KB := [(0, ⟨0, 1000, []⟩), (1, ⟨1001, 9223372036854775807, []⟩), (2, ⟨-9223372036854775808, 9223372036854775807, []⟩)]
def planColdTF3 : Fct := []
def planColdTA3 : Arc := []
def planColdTM3 : Mnc := []
def planColdTKB4 : KB := [(0, ⟨0, 1000, []⟩), (1, ⟨0, 1000, []⟩), (2, ⟨-9223372036854775808, -1, []⟩)]
def planColdTF4 : Fct := []
def planColdTA4 : Arc := []
def planColdTM4 : Mnc := []
def planColdTKB5 : KB := [(0, ⟨0, 1000, []⟩), (1, ⟨0, 1000, []⟩), (2, ⟨3001, 9223372036854775807, []⟩)]
def planColdTF5 : Fct := []
def planColdTA5 : Arc := []
def planColdTM5 : Mnc := []
def planColdTKB6 : KB := [(0, ⟨0, 1000, []⟩), (1, ⟨0, 1000, []⟩), (2, ⟨0, 3000, []⟩), (4, ⟨-1000, -1, []⟩), (5, ⟨-999, 0, []⟩), (6, ⟨1, 1999, []⟩)]
def planColdTF6 : Fct := [(.eql, .chan (some 1), .chan (some 0), false), (.lss, .chan (some 4), .chan (some 5), true), (.lss, .chan (some 1), .chan (some 0), false), (.lss, .chan (some 0), .chan (some 0), false), (.lss, .chan (some 6), .chan (some 1), false)]
def planColdTA6 : Arc := [(.add, .int .i64 (0), .chan (some 0), .chan (some 0)), (.add, .int .i64 (0), .chan (some 1), .chan (some 1)), (.mul, .int .i64 (-1), .chan (some 1), .chan (some 4)), (.mul, .int .i64 (-1), .chan (some 0), .chan (some 5)), (.mul, .int .i64 (1), .chan (some 1), .chan (some 1)), (.mul, .int .i64 (1), .chan (some 0), .chan (some 0)), (.add, .chan (some 0), .chan (some 1), .chan (some 6))]
def planColdTM6 : Mnc := [(false, .chan (some 0), .int .i64 (0), .chan (some 0)), (true, .chan (some 0), .int .i64 (1099511627776), .chan (some 0)), (false, .chan (some 1), .int .i64 (0), .chan (some 1)), (true, .chan (some 1), .int .i64 (1099511627776), .chan (some 1))]
def planColdT6k0y : KB := planColdTKB6.put 1 ⟨0, 0, []⟩
def planColdT6k0n : KB := planColdTKB6.put 1 ⟨1, 1000, []⟩
def planColdT6k1y : KB := planColdT6k0y.put 0 ⟨0, 0, []⟩
def planColdT6k1n : KB := planColdT6k0y.put 0 ⟨1, 1000, []⟩
def planColdTKB7 : KB := [(0, ⟨0, 1000, []⟩), (1, ⟨0, 1000, []⟩), (2, ⟨0, 3000, []⟩), (4, ⟨-1000, -1, []⟩), (5, ⟨-999, 0, []⟩), (6, ⟨1, 1999, []⟩)]
def planColdTF7 : Fct := [(.eql, .chan (some 1), .chan (some 0), false), (.lss, .chan (some 4), .chan (some 5), true), (.lss, .chan (some 1), .chan (some 0), false), (.lss, .chan (some 0), .chan (some 0), false), (.lss, .chan (some 6), .chan (some 1), false)]
def planColdTA7 : Arc := [(.add, .int .i64 (0), .chan (some 0), .chan (some 0)), (.add, .int .i64 (0), .chan (some 1), .chan (some 1)), (.mul, .int .i64 (-1), .chan (some 1), .chan (some 4)), (.mul, .int .i64 (-1), .chan (some 0), .chan (some 5)), (.mul, .int .i64 (1), .chan (some 1), .chan (some 1)), (.mul, .int .i64 (1), .chan (some 0), .chan (some 0)), (.add, .chan (some 0), .chan (some 1), .chan (some 6))]
def planColdTM7 : Mnc := [(false, .chan (some 0), .int .i64 (0), .chan (some 0)), (true, .chan (some 0), .int .i64 (1099511627776), .chan (some 0)), (false, .chan (some 1), .int .i64 (0), .chan (some 1)), (true, .chan (some 1), .int .i64 (1099511627776), .chan (some 1))]
def planColdT7k0y : KB := planColdTKB7.put 1 ⟨0, 0, []⟩
def planColdT7k0n : KB := planColdTKB7.put 1 ⟨1, 1000, []⟩
def planColdT7k1y : KB := planColdT7k0y.put 0 ⟨0, 0, []⟩
def planColdT7k1n : KB := planColdT7k0y.put 0 ⟨1, 1000, []⟩
def planColdTKB8 : KB := [(0, ⟨0, 1000, []⟩), (1, ⟨0, 1000, []⟩), (2, ⟨0, 3000, []⟩), (6, ⟨0, 2000, []⟩)]
def planColdTF8 : Fct := [(.eql, .chan (some 0), .chan (some 0), true), (.lss, .chan (some 6), .chan (some 0), false)]
def planColdTA8 : Arc := [(.add, .int .i64 (0), .chan (some 0), .chan (some 0)), (.add, .int .i64 (0), .chan (some 1), .chan (some 0)), (.add, .chan (some 0), .chan (some 0), .chan (some 6))]
def planColdTM8 : Mnc := [(false, .chan (some 0), .int .i64 (0), .chan (some 0)), (true, .chan (some 0), .int .i64 (1099511627776), .chan (some 0)), (false, .chan (some 1), .int .i64 (0), .chan (some 1)), (true, .chan (some 1), .int .i64 (1099511627776), .chan (some 1))]
def planColdT8k0y : KB := planColdTKB8.put 0 ⟨0, 0, []⟩
def planColdT8k0n : KB := planColdTKB8.put 0 ⟨1, 1000, []⟩
def planColdTKB9 : KB := [(0, ⟨0, 1000, []⟩), (1, ⟨0, 1000, []⟩), (2, ⟨0, 3000, []⟩), (6, ⟨0, 2000, []⟩)]
def planColdTF9 : Fct := [(.eql, .chan (some 0), .chan (some 0), true), (.lss, .chan (some 6), .chan (some 0), false)]
def planColdTA9 : Arc := [(.add, .int .i64 (0), .chan (some 0), .chan (some 0)), (.add, .int .i64 (0), .chan (some 1), .chan (some 0)), (.add, .chan (some 0), .chan (some 0), .chan (some 6))]
def planColdTM9 : Mnc := [(false, .chan (some 0), .int .i64 (0), .chan (some 0)), (true, .chan (some 0), .int .i64 (1099511627776), .chan (some 0)), (false, .chan (some 1), .int .i64 (0), .chan (some 1)), (true, .chan (some 1), .int .i64 (1099511627776), .chan (some 1))]
def planColdT9k0y : KB := planColdTKB9.put 0 ⟨0, 0, []⟩
def planColdT9k0n : KB := planColdTKB9.put 0 ⟨1, 1000, []⟩
def planColdTKB10 : KB := [(0, ⟨0, 1000, []⟩), (1, ⟨0, 1000, []⟩), (2, ⟨0, 3000, []⟩), (4, ⟨-999, 0, []⟩), (5, ⟨-1000, -1, []⟩), (6, ⟨1, 1999, []⟩)]
def planColdTF10 : Fct := [(.eql, .chan (some 1), .chan (some 0), false), (.lss, .chan (some 4), .chan (some 5), false), (.lss, .chan (some 1), .chan (some 0), true), (.lss, .chan (some 1), .chan (some 1), false), (.lss, .chan (some 6), .chan (some 0), false)]
def planColdTA10 : Arc := [(.add, .int .i64 (0), .chan (some 0), .chan (some 0)), (.add, .int .i64 (0), .chan (some 1), .chan (some 1)), (.mul, .int .i64 (-1), .chan (some 1), .chan (some 4)), (.mul, .int .i64 (-1), .chan (some 0), .chan (some 5)), (.mul, .int .i64 (1), .chan (some 1), .chan (some 1)), (.mul, .int .i64 (1), .chan (some 0), .chan (some 0)), (.add, .chan (some 1), .chan (some 0), .chan (some 6))]
def planColdTM10 : Mnc := [(false, .chan (some 0), .int .i64 (0), .chan (some 0)), (true, .chan (some 0), .int .i64 (1099511627776), .chan (some 0)), (false, .chan (some 1), .int .i64 (0), .chan (some 1)), (true, .chan (some 1), .int .i64 (1099511627776), .chan (some 1))]
def planColdT10k0y : KB := planColdTKB10.put 0 ⟨0, 0, []⟩
def planColdT10k0n : KB := planColdTKB10.put 0 ⟨1, 1000, []⟩
def planColdT10k1y : KB := planColdT10k0y.put 1 ⟨0, 0, []⟩
def planColdT10k1n : KB := planColdT10k0y.put 1 ⟨1, 1000, []⟩
def planColdT10k3y : KB := planColdT10k1n.put 4 ⟨-999, -1, []⟩
def planColdT10k3n : KB := planColdT10k1n.put 4 ⟨0, 0, []⟩
def planColdTKB11 : KB := [(0, ⟨0, 1000, []⟩), (1, ⟨0, 1000, []⟩), (2, ⟨0, 3000, []⟩), (4, ⟨-999, 0, []⟩), (5, ⟨-1000, -1, []⟩), (6, ⟨1, 1999, []⟩)]
def planColdTF11 : Fct := [(.eql, .chan (some 1), .chan (some 0), false), (.lss, .chan (some 4), .chan (some 5), false), (.lss, .chan (some 1), .chan (some 0), true), (.lss, .chan (some 1), .chan (some 1), false), (.lss, .chan (some 6), .chan (some 0), false)]
def planColdTA11 : Arc := [(.add, .int .i64 (0), .chan (some 0), .chan (some 0)), (.add, .int .i64 (0), .chan (some 1), .chan (some 1)), (.mul, .int .i64 (-1), .chan (some 1), .chan (some 4)), (.mul, .int .i64 (-1), .chan (some 0), .chan (some 5)), (.mul, .int .i64 (1), .chan (some 1), .chan (some 1)), (.mul, .int .i64 (1), .chan (some 0), .chan (some 0)), (.add, .chan (some 1), .chan (some 0), .chan (some 6))]
def planColdTM11 : Mnc := [(false, .chan (some 0), .int .i64 (0), .chan (some 0)), (true, .chan (some 0), .int .i64 (1099511627776), .chan (some 0)), (false, .chan (some 1), .int .i64 (0), .chan (some 1)), (true, .chan (some 1), .int .i64 (1099511627776), .chan (some 1))]
def planColdT11k0y : KB := planColdTKB11.put 0 ⟨0, 0, []⟩
def planColdT11k0n : KB := planColdTKB11.put 0 ⟨1, 1000, []⟩
def planColdT11k1y : KB := planColdT11k0y.put 1 ⟨0, 0, []⟩
def planColdT11k1n : KB := planColdT11k0y.put 1 ⟨1, 1000, []⟩
def planColdT11k3y : KB := planColdT11k1n.put 4 ⟨-999, -1, []⟩
def planColdT11k3n : KB := planColdT11k1n.put 4 ⟨0, 0, []⟩
end Go.Proofs.Ytljhlnpbomehkaa
