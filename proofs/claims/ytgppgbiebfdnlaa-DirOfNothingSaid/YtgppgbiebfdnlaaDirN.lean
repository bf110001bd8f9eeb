/- dir: a nil Dir has nothing: the walk of the statement, by the evaluator. -/
import Derived.Test.YtgppgbiebfdnlaaEvS
namespace Go.Proofs.Ytgppgbiebfdnlaa
open Go.RowKit
set_option linter.unusedVariables false
set_option linter.unusedSimpArgs false
set_option maxRecDepth 100000

def dirArgs : Array Value := #[.agg #[.chan (some 2), .chan (some 3), .chan (some 4), .chan (some 5), .chan (some 0)], .chan (some 1)]
def dirSym (k z e t : Int) (s key : ByteArray) : List (Nat × Value) := [(0, .string s), (1, .string key), (2, .int .i64 k), (3, .int .i64 z), (4, .int .i64 e), (5, .int .i64 t), (1000, .int .i64 s.size), (1001, .int .i64 key.size)]
theorem dirEval0 : ((aCall Try.prog (lenOrc Try.prog [(0, true, 60, false), (1, true, 60, false)]) 100000 30 5 dirArgs).run ⟨.lf, 0, 0, [], []⟩).map (·.1) = some (.bool true) := by kernel_rfl
theorem dirEval1 : ((aCall Try.prog (lenOrc Try.prog [(0, true, 60, true)]) 100000 30 5 dirArgs).run ⟨.lf, 0, 0, [], []⟩).map (·.1) = some (.bool true) := by kernel_rfl
theorem dirEval2 : ((aCall Try.prog (lenOrc Try.prog [(0, true, 60, false), (1, true, 60, true)]) 100000 30 5 dirArgs).run ⟨.lf, 0, 0, [], []⟩).map (·.1) = some (.bool true) := by kernel_rfl
theorem walkDirOfNothing (k z e t : Int) (s key : ByteArray) (w : World) :
    Calls Try.prog 5 #[.agg #[.int .i64 k, .int .i64 z, .int .i64 e, .int .i64 t, .string s], .string key] w fun e' w' => e' = .returned (.bool true) ∧ Below w.heap.size w w' := by
  have hone : ∀ q, (symF (dirSym k z e t s key) q).oneCell' = true := symF_one (by intro p hp; simp [dirSym] at hp; rcases hp with rfl | rfl | rfl | rfl | rfl | rfl | rfl | rfl <;> rfl)
  have ha : ∀ r : Ren, r.σ = symF (dirSym k z e t s key) → dirArgs.map (ren r) = #[.agg #[.int .i64 k, .int .i64 z, .int .i64 e, .int .i64 t, .string s], .string key] := fun r hr => by simp [dirArgs, ren, hr, symF, dirSym]
  have h0 : ∀ b, decide (60 < s.size) = b → ∃ n : Nat, symF (dirSym k z e t s key) (0 + 1000) = .int .i64 n ∧ decide (60 < n) = b ∧ (if true = true then ∃ x : ByteArray, symF (dirSym k z e t s key) 0 = .string x ∧ x.size = n else ∃ a c, symF (dirSym k z e t s key) 0 = .slice a n c) := fun b hb => ⟨s.size, by simp [symF, dirSym], hb, by rw [if_pos rfl]; exact ⟨s, by simp [symF, dirSym], rfl⟩⟩
  have h1 : ∀ b, decide (60 < key.size) = b → ∃ n : Nat, symF (dirSym k z e t s key) (1 + 1000) = .int .i64 n ∧ decide (60 < n) = b ∧ (if true = true then ∃ x : ByteArray, symF (dirSym k z e t s key) 1 = .string x ∧ x.size = n else ∃ a c, symF (dirSym k z e t s key) 1 = .slice a n c) := fun b hb => ⟨key.size, by simp [symF, dirSym], hb, by rw [if_pos rfl]; exact ⟨key, by simp [symF, dirSym], rfl⟩⟩
  cases hs : decide (60 < s.size) with
  | true => exact Calls.of_eval evMixed evNames hone (lenOrc_ok Try.prog [(0, true, 60, true)] _ (by intro p hp; simp at hp; subst hp; exact h0 _ hs)) ha dirEval1 rfl w
  | false =>
    cases hk : decide (60 < key.size) with
    | true => exact Calls.of_eval evMixed evNames hone (lenOrc_ok Try.prog [(0, true, 60, false), (1, true, 60, true)] _ (by intro p hp; simp at hp; rcases hp with rfl | rfl; (exact h0 _ hs); (exact h1 _ hk))) ha dirEval2 rfl w
    | false => exact Calls.of_eval evMixed evNames hone (lenOrc_ok Try.prog [(0, true, 60, false), (1, true, 60, false)] _ (by intro p hp; simp at hp; rcases hp with rfl | rfl; (exact h0 _ hs); (exact h1 _ hk))) ha dirEval0 rfl w
end Go.Proofs.Ytgppgbiebfdnlaa
