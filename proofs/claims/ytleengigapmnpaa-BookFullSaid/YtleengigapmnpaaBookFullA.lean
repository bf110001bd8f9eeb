/- BookFull: the walk of the statement, by the evaluator, trees of questions, facts. -/
import Derived.Test.YtleengigapmnpaaEvS
import Derived.Test.YtleengigapmnpaaEvZc
import Derived.ProofKit
namespace Go.Proofs.Ytleengigapmnpaa
open Go.RowKit
set_option linter.unusedVariables false
set_option linter.unusedSimpArgs false
set_option maxRecDepth 100000

def bookFullSym (a0 : Int) (a1 : ByteArray) (a2 : Bool) (a3 : Int) (a4 : Int) (a5 : Int) : List (Nat × Value) := [(0, .int .i64 a0), (1, .string a1), (2, .bool a2), (3, .int .i64 a3), (4, .int .i64 a4), (5, .int .i64 a5), (1001, .int .i64 a1.size)]
def bookFullKn : KN := [(14, .bool true)]
def bookFullET : ET := []
def bookFullArgs : Array Value := #[.agg #[.chan (some 0), .chan (some 1), .chan (some 2), .chan (some 3), .chan (some 4), .chan (some 5)]]
def bookFullKB0 : KB := [(0, ⟨-9223372036854775808, 9223372036854775807, []⟩), (1001, ⟨0, 9223372036854775807, []⟩), (3, ⟨-9223372036854775808, 9223372036854775807, []⟩), (4, ⟨-9223372036854775808, 9223372036854775807, []⟩), (5, ⟨-9223372036854775808, 9223372036854775807, []⟩)]
def bookFullF0 : Fct := []
def bookFull0k0y : KB := bookFullKB0.put 0 ⟨-9223372036854775808, 0, []⟩
def bookFull0k0n : KB := bookFullKB0.put 0 ⟨1, 9223372036854775807, []⟩
def bookFull0k2y : KB := bookFull0k0n.put 0 ⟨1, 1099511627776, []⟩
def bookFull0k2n : KB := bookFull0k0n.put 0 ⟨1099511627777, 9223372036854775807, []⟩
def bookFull0k3y : KB := bookFull0k2y.put 1001 ⟨0, 0, []⟩
def bookFull0k3n : KB := bookFull0k2y.put 1001 ⟨1, 9223372036854775807, []⟩
def bookFull0k5y : KB := bookFull0k3n.put 1001 ⟨1, 16, []⟩
def bookFull0k5n : KB := bookFull0k3n.put 1001 ⟨17, 9223372036854775807, []⟩
def bookFull0k6y : KB := bookFull0k5y.put 3 ⟨-9223372036854775808, 0, []⟩
def bookFull0k6n : KB := bookFull0k5y.put 3 ⟨1, 9223372036854775807, []⟩
def bookFull0k8y : KB := bookFull0k6n.put 3 ⟨1, 3, []⟩
def bookFull0k8n : KB := bookFull0k6n.put 3 ⟨4, 9223372036854775807, []⟩
def bookFull0k9y : KB := bookFull0k8y.put 4 ⟨-9223372036854775808, 0, []⟩
def bookFull0k9n : KB := bookFull0k8y.put 4 ⟨1, 9223372036854775807, []⟩
def bookFull0k11y : KB := bookFull0k9n.put 4 ⟨1, 1048576, []⟩
def bookFull0k11n : KB := bookFull0k9n.put 4 ⟨1048577, 9223372036854775807, []⟩
def bookFull0k12y : KB := bookFull0k11y.put 5 ⟨-9223372036854775808, 0, []⟩
def bookFull0k12n : KB := bookFull0k11y.put 5 ⟨1, 9223372036854775807, []⟩
def bookFull0k14y : KB := bookFull0k12n.put 5 ⟨1, 1024, []⟩
def bookFull0k14n : KB := bookFull0k12n.put 5 ⟨1025, 9223372036854775807, []⟩
def bookFull0k15y : KB := bookFull0k14y.put 0 ⟨1, 32, []⟩
def bookFull0k15n : KB := bookFull0k14y.put 0 ⟨33, 1099511627776, []⟩
end Go.Proofs.Ytleengigapmnpaa
