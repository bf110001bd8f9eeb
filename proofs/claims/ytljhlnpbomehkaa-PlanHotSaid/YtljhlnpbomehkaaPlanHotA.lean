/- PlanHot: the walk of the statement, by the evaluator with forks, trees of questions, facts. -/
import Derived.Test.YtljhlnpbomehkaaEwS
import Derived.Test.YtljhlnpbomehkaaEwTt
import Derived.Test.YtljhlnpbomehkaaEwXd
import Derived.Test.YtljhlnpbomehkaaEwR
import Derived.Test.YtljhlnpbomehkaaEwAs
import Derived.Test.YtljhlnpbomehkaaEwSk
import Derived.Test.YtljhlnpbomehkaaPlanK
import Derived.Test.YtljhlnpbomehkaaChangeEqW
import Derived.ProofKit
namespace Go.Proofs.Ytljhlnpbomehkaa
open Go.RowKit
set_option linter.unusedVariables false
set_option linter.unusedSimpArgs false
set_option maxRecDepth 100000

def planHotSym (a0 : Int) (a1 : ByteArray) (a2 : Int) : List (Nat × Value) := [(0, .int .i64 a0), (1, .string a1), (2, .int .i64 a2), (3, .int .i64 (a0 + a0)), (1001, .int .i64 a1.size)]
def planHotET : ET := [(48, [CK.i, CK.i, CK.i, CK.i, CK.s])]
def planHotArgs : Array Value := #[.chan (some 0), .chan (some 1), .chan (some 2)]
def planHotHook (f : FuncId) : Option (Array Value → LM Value) := none
def planHotCut (f : FuncId) : Bool := hasN [8, 17, 19, 21, 22, 35, 36, 40, 59, 66] f
theorem planHotHook_ok : ∀ f m, planHotHook f = some m → FunOKL Try.prog f m := by
  intro f m h
  unfold planHotHook at h
  cases h
def planHotKB0 : KB := [(0, ⟨-9223372036854775808, 0, []⟩), (2, ⟨-9223372036854775808, 9223372036854775807, []⟩), (1001, ⟨0, 0, []⟩)]
def planHotF0 : Fct := [(.lss, .chan (some 1), .string ⟨#[]⟩, false), (.leq, .chan (some 1), .string ⟨#[]⟩, true), (.gtr, .chan (some 1), .string ⟨#[]⟩, false), (.geq, .chan (some 1), .string ⟨#[]⟩, true), (.lss, .string ⟨#[]⟩, .chan (some 1), false), (.leq, .string ⟨#[]⟩, .chan (some 1), true), (.gtr, .string ⟨#[]⟩, .chan (some 1), false), (.geq, .string ⟨#[]⟩, .chan (some 1), true), (.eql, .chan (some 1), .string ⟨#[]⟩, true), (.neq, .chan (some 1), .string ⟨#[]⟩, false), (.eql, .string ⟨#[]⟩, .chan (some 1), true), (.neq, .string ⟨#[]⟩, .chan (some 1), false)]
def planHotA0 : Arc := []
def planHotM0 : Mnc := [(false, .chan (some 0), .int .i64 (0), .int .i64 (0)), (true, .chan (some 0), .int .i64 (1099511627776), .chan (some 0)), (false, .int .i64 (0), .chan (some 0), .int .i64 (0))]
def planHot0k0y : KB := planHotKB0.put 2 ⟨-9223372036854775808, -1, []⟩
def planHot0k0n : KB := planHotKB0.put 2 ⟨0, 9223372036854775807, []⟩
def planHotKB1 : KB := [(0, ⟨1, 1099511627776, []⟩), (2, ⟨-9223372036854775808, 9223372036854775807, []⟩), (1001, ⟨0, 0, []⟩), (3, ⟨2, 2199023255552, []⟩)]
def planHotF1 : Fct := [(.lss, .chan (some 1), .string ⟨#[]⟩, false), (.leq, .chan (some 1), .string ⟨#[]⟩, true), (.gtr, .chan (some 1), .string ⟨#[]⟩, false), (.geq, .chan (some 1), .string ⟨#[]⟩, true), (.lss, .string ⟨#[]⟩, .chan (some 1), false), (.leq, .string ⟨#[]⟩, .chan (some 1), true), (.gtr, .string ⟨#[]⟩, .chan (some 1), false), (.geq, .string ⟨#[]⟩, .chan (some 1), true), (.eql, .chan (some 1), .string ⟨#[]⟩, true), (.neq, .chan (some 1), .string ⟨#[]⟩, false), (.eql, .string ⟨#[]⟩, .chan (some 1), true), (.neq, .string ⟨#[]⟩, .chan (some 1), false), (.leq, .chan (some 0), .chan (some 2), false), (.lss, .chan (some 3), .chan (some 0), false), (.gtr, .chan (some 0), .chan (some 2), true)]
def planHotA1 : Arc := [(.add, .int .i64 (0), .chan (some 0), .chan (some 0)), (.add, .chan (some 0), .chan (some 0), .chan (some 3))]
def planHotM1 : Mnc := [(false, .chan (some 0), .int .i64 (0), .chan (some 0)), (true, .chan (some 0), .int .i64 (1099511627776), .chan (some 0)), (false, .int .i64 (0), .chan (some 0), .chan (some 0))]
def planHotKB2 : KB := [(0, ⟨1, 1099511627776, []⟩), (2, ⟨-9223372036854775808, 9223372036854775807, []⟩), (1001, ⟨0, 0, []⟩)]
def planHotF2 : Fct := [(.lss, .chan (some 1), .string ⟨#[]⟩, false), (.leq, .chan (some 1), .string ⟨#[]⟩, true), (.gtr, .chan (some 1), .string ⟨#[]⟩, false), (.geq, .chan (some 1), .string ⟨#[]⟩, true), (.lss, .string ⟨#[]⟩, .chan (some 1), false), (.leq, .string ⟨#[]⟩, .chan (some 1), true), (.gtr, .string ⟨#[]⟩, .chan (some 1), false), (.geq, .string ⟨#[]⟩, .chan (some 1), true), (.eql, .chan (some 1), .string ⟨#[]⟩, true), (.neq, .chan (some 1), .string ⟨#[]⟩, false), (.eql, .string ⟨#[]⟩, .chan (some 1), true), (.neq, .string ⟨#[]⟩, .chan (some 1), false), (.leq, .chan (some 0), .chan (some 2), true), (.lss, .chan (some 3), .chan (some 0), false), (.gtr, .chan (some 0), .chan (some 2), false)]
def planHotA2 : Arc := [(.add, .int .i64 (0), .chan (some 0), .chan (some 0)), (.add, .chan (some 0), .chan (some 0), .chan (some 3))]
def planHotM2 : Mnc := [(false, .chan (some 0), .int .i64 (0), .chan (some 0)), (true, .chan (some 0), .int .i64 (1099511627776), .chan (some 0)), (false, .int .i64 (0), .chan (some 0), .chan (some 0))]
def planHotKB3 : KB := [(0, ⟨1099511627777, 9223372036854775807, []⟩), (2, ⟨-9223372036854775808, 9223372036854775807, []⟩), (1001, ⟨0, 0, []⟩)]
def planHotF3 : Fct := [(.lss, .chan (some 1), .string ⟨#[]⟩, false), (.leq, .chan (some 1), .string ⟨#[]⟩, true), (.gtr, .chan (some 1), .string ⟨#[]⟩, false), (.geq, .chan (some 1), .string ⟨#[]⟩, true), (.lss, .string ⟨#[]⟩, .chan (some 1), false), (.leq, .string ⟨#[]⟩, .chan (some 1), true), (.gtr, .string ⟨#[]⟩, .chan (some 1), false), (.geq, .string ⟨#[]⟩, .chan (some 1), true), (.eql, .chan (some 1), .string ⟨#[]⟩, true), (.neq, .chan (some 1), .string ⟨#[]⟩, false), (.eql, .string ⟨#[]⟩, .chan (some 1), true), (.neq, .string ⟨#[]⟩, .chan (some 1), false)]
def planHotA3 : Arc := []
def planHotM3 : Mnc := [(false, .chan (some 0), .int .i64 (0), .chan (some 0)), (true, .chan (some 0), .int .i64 (1099511627776), .int .i64 (1099511627776))]
def planHot3k0y : KB := planHotKB3.put 2 ⟨-9223372036854775808, 1099511627775, []⟩
def planHot3k0n : KB := planHotKB3.put 2 ⟨1099511627776, 9223372036854775807, []⟩
def planHotKB4 : KB := [(0, ⟨-9223372036854775808, 0, []⟩), (2, ⟨-9223372036854775808, 9223372036854775807, []⟩), (1001, ⟨1, 9223372036854775807, []⟩)]
def planHotF4 : Fct := [(.lss, .chan (some 1), .string ⟨#[]⟩, false), (.leq, .chan (some 1), .string ⟨#[]⟩, false), (.gtr, .chan (some 1), .string ⟨#[]⟩, true), (.geq, .chan (some 1), .string ⟨#[]⟩, true), (.lss, .string ⟨#[]⟩, .chan (some 1), true), (.leq, .string ⟨#[]⟩, .chan (some 1), true), (.gtr, .string ⟨#[]⟩, .chan (some 1), false), (.geq, .string ⟨#[]⟩, .chan (some 1), false), (.lss, .chan (some 1), .chan (some 1), false), (.leq, .chan (some 1), .chan (some 1), true), (.eql, .chan (some 1), .string ⟨#[]⟩, false), (.neq, .chan (some 1), .string ⟨#[]⟩, true), (.eql, .string ⟨#[]⟩, .chan (some 1), false), (.neq, .string ⟨#[]⟩, .chan (some 1), true), (.eql, .chan (some 1), .chan (some 1), true), (.neq, .chan (some 1), .chan (some 1), false)]
def planHotA4 : Arc := []
def planHotM4 : Mnc := [(false, .chan (some 0), .int .i64 (0), .int .i64 (0)), (true, .chan (some 0), .int .i64 (1099511627776), .chan (some 0)), (false, .int .i64 (0), .chan (some 0), .int .i64 (0))]
def planHot4k0y : KB := planHotKB4.put 1001 ⟨1, 60, []⟩
def planHot4k0n : KB := planHotKB4.put 1001 ⟨61, 9223372036854775807, []⟩
def planHot4k1y : KB := planHot4k0y.put 1001 ⟨1, 16, []⟩
def planHot4k1n : KB := planHot4k0y.put 1001 ⟨17, 60, []⟩
def planHot4k2y : KB := planHot4k1y.put 2 ⟨-9223372036854775808, -1, []⟩
def planHot4k2n : KB := planHot4k1y.put 2 ⟨0, 9223372036854775807, []⟩
def planHot4k5y : KB := planHot4k1n.put 2 ⟨-9223372036854775808, -1, []⟩
def planHot4k5n : KB := planHot4k1n.put 2 ⟨0, 9223372036854775807, []⟩
def planHotKB5 : KB := [(0, ⟨1, 1099511627776, []⟩), (2, ⟨-9223372036854775808, 9223372036854775807, []⟩), (1001, ⟨1, 9223372036854775807, []⟩)]
def planHotF5 : Fct := [(.lss, .chan (some 1), .string ⟨#[]⟩, false), (.leq, .chan (some 1), .string ⟨#[]⟩, false), (.gtr, .chan (some 1), .string ⟨#[]⟩, true), (.geq, .chan (some 1), .string ⟨#[]⟩, true), (.lss, .string ⟨#[]⟩, .chan (some 1), true), (.leq, .string ⟨#[]⟩, .chan (some 1), true), (.gtr, .string ⟨#[]⟩, .chan (some 1), false), (.geq, .string ⟨#[]⟩, .chan (some 1), false), (.lss, .chan (some 1), .chan (some 1), false), (.leq, .chan (some 1), .chan (some 1), true), (.eql, .chan (some 1), .string ⟨#[]⟩, false), (.neq, .chan (some 1), .string ⟨#[]⟩, true), (.eql, .string ⟨#[]⟩, .chan (some 1), false), (.neq, .string ⟨#[]⟩, .chan (some 1), true), (.eql, .chan (some 1), .chan (some 1), true), (.neq, .chan (some 1), .chan (some 1), false), (.leq, .chan (some 0), .chan (some 2), false), (.gtr, .chan (some 0), .chan (some 2), true), (.lss, .chan (some 3), .chan (some 0), false)]
def planHotA5 : Arc := [(.add, .int .i64 (0), .chan (some 0), .chan (some 0)), (.add, .chan (some 0), .chan (some 0), .chan (some 3))]
def planHotM5 : Mnc := [(false, .chan (some 0), .int .i64 (0), .chan (some 0)), (true, .chan (some 0), .int .i64 (1099511627776), .chan (some 0)), (false, .int .i64 (0), .chan (some 0), .chan (some 0))]
def planHot5k0y : KB := planHotKB5.put 1001 ⟨1, 60, []⟩
def planHot5k0n : KB := planHotKB5.put 1001 ⟨61, 9223372036854775807, []⟩
def planHot5k1y : KB := planHot5k0y.put 1001 ⟨1, 16, []⟩
def planHot5k1n : KB := planHot5k0y.put 1001 ⟨17, 60, []⟩
def planHotKB6 : KB := [(0, ⟨1, 1099511627776, []⟩), (2, ⟨-9223372036854775808, 9223372036854775807, []⟩), (1001, ⟨1, 9223372036854775807, []⟩)]
def planHotF6 : Fct := [(.lss, .chan (some 1), .string ⟨#[]⟩, false), (.leq, .chan (some 1), .string ⟨#[]⟩, false), (.gtr, .chan (some 1), .string ⟨#[]⟩, true), (.geq, .chan (some 1), .string ⟨#[]⟩, true), (.lss, .string ⟨#[]⟩, .chan (some 1), true), (.leq, .string ⟨#[]⟩, .chan (some 1), true), (.gtr, .string ⟨#[]⟩, .chan (some 1), false), (.geq, .string ⟨#[]⟩, .chan (some 1), false), (.lss, .chan (some 1), .chan (some 1), false), (.leq, .chan (some 1), .chan (some 1), true), (.eql, .chan (some 1), .string ⟨#[]⟩, false), (.neq, .chan (some 1), .string ⟨#[]⟩, true), (.eql, .string ⟨#[]⟩, .chan (some 1), false), (.neq, .string ⟨#[]⟩, .chan (some 1), true), (.eql, .chan (some 1), .chan (some 1), true), (.neq, .chan (some 1), .chan (some 1), false), (.leq, .chan (some 0), .chan (some 2), true), (.lss, .chan (some 3), .chan (some 0), false), (.gtr, .chan (some 0), .chan (some 2), false)]
def planHotA6 : Arc := [(.add, .int .i64 (0), .chan (some 0), .chan (some 0)), (.add, .chan (some 0), .chan (some 0), .chan (some 3))]
def planHotM6 : Mnc := [(false, .chan (some 0), .int .i64 (0), .chan (some 0)), (true, .chan (some 0), .int .i64 (1099511627776), .chan (some 0)), (false, .int .i64 (0), .chan (some 0), .chan (some 0))]
def planHot6k0y : KB := planHotKB6.put 1001 ⟨1, 60, []⟩
def planHot6k0n : KB := planHotKB6.put 1001 ⟨61, 9223372036854775807, []⟩
def planHot6k1y : KB := planHot6k0y.put 1001 ⟨1, 16, []⟩
def planHot6k1n : KB := planHot6k0y.put 1001 ⟨17, 60, []⟩
def planHotKB7 : KB := [(0, ⟨1099511627777, 9223372036854775807, []⟩), (2, ⟨-9223372036854775808, 9223372036854775807, []⟩), (1001, ⟨1, 9223372036854775807, []⟩)]
def planHotF7 : Fct := [(.lss, .chan (some 1), .string ⟨#[]⟩, false), (.leq, .chan (some 1), .string ⟨#[]⟩, false), (.gtr, .chan (some 1), .string ⟨#[]⟩, true), (.geq, .chan (some 1), .string ⟨#[]⟩, true), (.lss, .string ⟨#[]⟩, .chan (some 1), true), (.leq, .string ⟨#[]⟩, .chan (some 1), true), (.gtr, .string ⟨#[]⟩, .chan (some 1), false), (.geq, .string ⟨#[]⟩, .chan (some 1), false), (.lss, .chan (some 1), .chan (some 1), false), (.leq, .chan (some 1), .chan (some 1), true), (.eql, .chan (some 1), .string ⟨#[]⟩, false), (.neq, .chan (some 1), .string ⟨#[]⟩, true), (.eql, .string ⟨#[]⟩, .chan (some 1), false), (.neq, .string ⟨#[]⟩, .chan (some 1), true), (.eql, .chan (some 1), .chan (some 1), true), (.neq, .chan (some 1), .chan (some 1), false)]
def planHotA7 : Arc := []
def planHotM7 : Mnc := [(false, .chan (some 0), .int .i64 (0), .chan (some 0)), (true, .chan (some 0), .int .i64 (1099511627776), .int .i64 (1099511627776))]
def planHot7k0y : KB := planHotKB7.put 1001 ⟨1, 60, []⟩
def planHot7k0n : KB := planHotKB7.put 1001 ⟨61, 9223372036854775807, []⟩
def planHot7k1y : KB := planHot7k0y.put 1001 ⟨1, 16, []⟩
def planHot7k1n : KB := planHot7k0y.put 1001 ⟨17, 60, []⟩
def planHot7k2y : KB := planHot7k1y.put 2 ⟨-9223372036854775808, 1099511627775, []⟩
def planHot7k2n : KB := planHot7k1y.put 2 ⟨1099511627776, 9223372036854775807, []⟩
def planHot7k5y : KB := planHot7k1n.put 2 ⟨-9223372036854775808, 1099511627775, []⟩
def planHot7k5n : KB := planHot7k1n.put 2 ⟨1099511627776, 9223372036854775807, []⟩
end Go.Proofs.Ytljhlnpbomehkaa
