/- OpKinds: what its trees have in common. -/
import Derived.Test.YtliljfncbljfpaaEvS
import Derived.Test.YtliljfncbljfpaaEvW
import Derived.Test.YtliljfncbljfpaaOpEq
import Derived.ProofKit
namespace Go.Proofs.Ytliljfncbljfpaa
open Go.RowKit
set_option linter.unusedVariables false
set_option linter.unusedSimpArgs false
set_option maxRecDepth 100000

def opkSym (a0 a1 a2 : Int) (a3 a4 a5 a6 : ByteArray) (a7 a8 a9 : Int) (a10 : Bool) (a11 a12 : Int) : List (Nat × Value) := [(0, .int .i64 a0), (1, .int .i64 a1), (2, .int .i64 a2), (3, .string a3), (4, .string a4), (5, .string a5), (6, .string a6), (7, .int .i64 a7), (8, .int .i64 a8), (9, .int .i64 a9), (10, .bool a10), (11, .int .i64 a11), (12, .int .i64 a12), (1003, .int .i64 a3.size), (1004, .int .i64 a4.size), (1005, .int .i64 a5.size), (1006, .int .i64 a6.size), (2000, .int .i64 (a12 % 8)), (2001, .int .i64 (IntKind.i64.wrap (a11 + 1099511627776)))]
def opkKn : KN := [(18, .bool true)]
def opkDer : Der := [(.and, 12, 7, 2000), (.add, 11, 1099511627776, 2001)]
def opkET : ET := [(25, opCK), (94, opCK)]
def opkArgs (b : Bool) : Array Value := #[.agg #[.chan (some 0), .chan (some 1), .chan (some 2), .chan (some 3), .chan (some 4), .chan (some 5), .chan (some 6), .chan (some 7), .chan (some 8), .chan (some 9), .bool b, .chan (some 11)], .chan (some 12)]
def opkKB (i s : Info) : KB := [(0, ⟨-9223372036854775808, 9223372036854775807, []⟩), (1, ⟨-9223372036854775808, 9223372036854775807, []⟩), (2, ⟨-9223372036854775808, 9223372036854775807, []⟩), (7, ⟨-9223372036854775808, 9223372036854775807, []⟩), (8, ⟨-9223372036854775808, 9223372036854775807, []⟩), (9, ⟨-9223372036854775808, 9223372036854775807, []⟩), (11, i), (12, ⟨-9223372036854775808, 9223372036854775807, []⟩), (2000, ⟨0, 7, []⟩), (2001, s), (1003, ⟨0, 9223372036854775807, []⟩), (1004, ⟨0, 9223372036854775807, []⟩), (1005, ⟨0, 9223372036854775807, []⟩), (1006, ⟨0, 9223372036854775807, []⟩)]
def opkBig : Info := ⟨-9223372036854775808, 9223372036854775807, []⟩
theorem opkKnown : ((aCall Try.prog noOrc 100000 60 18 #[]).run ⟨.lf, 0, 0, [], []⟩).map (·.1) = some (.bool true) := by kernel_rfl
theorem opkKnOK : KnOK Try.prog opkKn := by
  intro f v h
  unfold opkKn at h
  unfold KN.find at h
  split at h
  · rename_i he
    injection h with h; subst h; subst he
    exact ⟨rfl, fun w => Calls.of_eval evMixed evNames (σ := fun _ => .bool false) (fun _ => rfl) (noOrc_ok _ _) (fun r _ => by simp) opkKnown rfl w⟩
  cases h
end Go.Proofs.Ytliljfncbljfpaa
