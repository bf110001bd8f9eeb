/- VaultOfNothing: the walk of the statement, by the evaluator and a tree of questions. -/
import Derived.Test.YtgppgbiebfdnlaaEvS
import Derived.Test.YtgppgbiebfdnlaaEvU
import Derived.ProofKit
namespace Go.Proofs.Ytgppgbiebfdnlaa
open Go.RowKit
set_option linter.unusedVariables false
set_option linter.unusedSimpArgs false
set_option maxRecDepth 100000

def vaultOfNothingSym (a0 : ByteArray) (a1 : Int) (a2 : Int) (a3 : Int) (a4 : Int) (a5 : Int) (a6 : ByteArray) (a7 : Bool) (a8 : Int) (a9 : Int) (a10 : Int) : List (Nat × Value) := [(0, .string a0), (1, .int .i64 a1), (2, .int .i64 a2), (3, .int .i64 a3), (4, .int .i64 a4), (5, .int .i64 a5), (6, .string a6), (7, .bool a7), (8, .int .i64 a8), (9, .int .i64 a9), (10, .int .i64 a10), (1000, .int .i64 a0.size), (1006, .int .i64 a6.size)]
def vaultOfNothingKn : KN := [(24, .bool true)]
def vaultOfNothingKB : KB := [(1, ⟨-9223372036854775808, 9223372036854775807, []⟩), (2, ⟨-9223372036854775808, 9223372036854775807, []⟩), (3, ⟨-9223372036854775808, 9223372036854775807, []⟩), (4, ⟨-9223372036854775808, 9223372036854775807, []⟩), (5, ⟨-9223372036854775808, 9223372036854775807, []⟩), (8, ⟨-9223372036854775808, 9223372036854775807, []⟩), (9, ⟨-9223372036854775808, 9223372036854775807, []⟩), (10, ⟨-9223372036854775808, 9223372036854775807, []⟩), (1000, ⟨0, 9223372036854775807, []⟩), (1006, ⟨0, 9223372036854775807, []⟩)]
def vaultOfNothingET : ET := []
theorem vaultOfNothingKnown24 : ((aCall Try.prog noOrc 100000 60 24 #[]).run ⟨.lf, 0, 0, [], []⟩).map (·.1) = some (.bool true) := by kernel_rfl
theorem vaultOfNothingKnOK : KnOK Try.prog vaultOfNothingKn := by
  intro f v h
  unfold vaultOfNothingKn at h
  unfold KN.find at h
  split at h
  · rename_i he
    injection h with h; subst h; subst he
    exact ⟨rfl, fun w => Calls.of_eval evMixed evNames (σ := fun _ => .bool false) (fun _ => rfl) (noOrc_ok _ _) (fun r _ => by simp) vaultOfNothingKnown24 rfl w⟩
  cases h
def vaultOfNothingArgs0 : Array Value := #[.chan (some 0), .agg #[.chan (some 1), .chan (some 2), .chan (some 3), .chan (some 4)], .agg #[.chan (some 5), .chan (some 6), .bool true, .chan (some 8), .chan (some 9), .chan (some 10)]]
def vaultOfNothingTree0 : DT := (.less 1000 (201) (.less 1006 (1) .leaf (.less 1006 (17) (.less 8 (1) .leaf (.less 8 (4) (.less 9 (1) .leaf (.less 9 (1048577) (.less 10 (1) .leaf (.less 10 (1025) (.same 8 (1) .leaf (.same 8 (2) .leaf .leaf)) .leaf)) .leaf)) .leaf)) .leaf)) .leaf)
theorem vaultOfNothingCheck0 : vaultOfNothingTree0.check (okK Try.prog vaultOfNothingKn [0, 6] vaultOfNothingET 100000 60 4 vaultOfNothingArgs0) vaultOfNothingKB = true := by kernel_rfl
def vaultOfNothingArgs1 : Array Value := #[.chan (some 0), .agg #[.chan (some 1), .chan (some 2), .chan (some 3), .chan (some 4)], .agg #[.chan (some 5), .chan (some 6), .bool false, .chan (some 8), .chan (some 9), .chan (some 10)]]
def vaultOfNothingTree1 : DT := (.less 1000 (201) (.less 1006 (1) .leaf (.less 1006 (17) (.less 8 (1) .leaf (.less 8 (4) (.less 9 (1) .leaf (.less 9 (1048577) (.less 10 (1) .leaf (.less 10 (1025) (.same 8 (1) .leaf (.same 8 (2) .leaf .leaf)) .leaf)) .leaf)) .leaf)) .leaf)) .leaf)
theorem vaultOfNothingCheck1 : vaultOfNothingTree1.check (okK Try.prog vaultOfNothingKn [0, 6] vaultOfNothingET 100000 60 4 vaultOfNothingArgs1) vaultOfNothingKB = true := by kernel_rfl
theorem walkVaultOfNothing (a0 : ByteArray) (a1 : Int) (a2 : Int) (a3 : Int) (a4 : Int) (a5 : Int) (a6 : ByteArray) (a7 : Bool) (a8 : Int) (a9 : Int) (a10 : Int) (w0 : a0.size ≤ maxLen) (w1 : (Lit.int .i64 a1).wf = true) (w2 : (Lit.int .i64 a2).wf = true) (w3 : (Lit.int .i64 a3).wf = true) (w4 : (Lit.int .i64 a4).wf = true) (w5 : (Lit.int .i64 a5).wf = true) (w6 : a6.size ≤ maxLen) (w8 : (Lit.int .i64 a8).wf = true) (w9 : (Lit.int .i64 a9).wf = true) (w10 : (Lit.int .i64 a10).wf = true) (w : World) :
    Calls Try.prog 4 #[.string a0, .agg #[.int .i64 a1, .int .i64 a2, .int .i64 a3, .int .i64 a4], .agg #[.int .i64 a5, .string a6, .bool a7, .int .i64 a8, .int .i64 a9, .int .i64 a10]] w fun e' w' => e' = .returned (.bool true) ∧ Below w.heap.size w w' := by
  have hone : ∀ q, (symF (vaultOfNothingSym a0 a1 a2 a3 a4 a5 a6 a7 a8 a9 a10) q).oneCell' = true := symF_one (by intro p hp; simp [vaultOfNothingSym] at hp; rcases hp with rfl | rfl | rfl | rfl | rfl | rfl | rfl | rfl | rfl | rfl | rfl | rfl | rfl <;> rfl)
  have r1 : IntKind.i64.min ≤ a1 ∧ a1 ≤ IntKind.i64.max := by simpa [Lit.wf] using w1
  have r2 : IntKind.i64.min ≤ a2 ∧ a2 ≤ IntKind.i64.max := by simpa [Lit.wf] using w2
  have r3 : IntKind.i64.min ≤ a3 ∧ a3 ≤ IntKind.i64.max := by simpa [Lit.wf] using w3
  have r4 : IntKind.i64.min ≤ a4 ∧ a4 ≤ IntKind.i64.max := by simpa [Lit.wf] using w4
  have r5 : IntKind.i64.min ≤ a5 ∧ a5 ≤ IntKind.i64.max := by simpa [Lit.wf] using w5
  have r8 : IntKind.i64.min ≤ a8 ∧ a8 ≤ IntKind.i64.max := by simpa [Lit.wf] using w8
  have r9 : IntKind.i64.min ≤ a9 ∧ a9 ≤ IntKind.i64.max := by simpa [Lit.wf] using w9
  have r10 : IntKind.i64.min ≤ a10 ∧ a10 ≤ IntKind.i64.max := by simpa [Lit.wf] using w10
  simp only [show IntKind.i64.min = -9223372036854775808 from rfl, show IntKind.i64.max = 9223372036854775807 from rfl] at r1 r2 r3 r4 r5 r8 r9 r10
  unfold maxLen at w0 w6
  have hK : KOK vaultOfNothingKB (symF (vaultOfNothingSym a0 a1 a2 a3 a4 a5 a6 a7 a8 a9 a10)) := by
    intro k i h
    unfold vaultOfNothingKB at h
    unfold KB.find at h
    split at h
    · rename_i he
      injection h with h; subst h; dsimp only at he; subst he
      exact ⟨a1, by simp [symF, vaultOfNothingSym], r1.1, r1.2, by simp⟩
    unfold KB.find at h
    split at h
    · rename_i he
      injection h with h; subst h; dsimp only at he; subst he
      exact ⟨a2, by simp [symF, vaultOfNothingSym], r2.1, r2.2, by simp⟩
    unfold KB.find at h
    split at h
    · rename_i he
      injection h with h; subst h; dsimp only at he; subst he
      exact ⟨a3, by simp [symF, vaultOfNothingSym], r3.1, r3.2, by simp⟩
    unfold KB.find at h
    split at h
    · rename_i he
      injection h with h; subst h; dsimp only at he; subst he
      exact ⟨a4, by simp [symF, vaultOfNothingSym], r4.1, r4.2, by simp⟩
    unfold KB.find at h
    split at h
    · rename_i he
      injection h with h; subst h; dsimp only at he; subst he
      exact ⟨a5, by simp [symF, vaultOfNothingSym], r5.1, r5.2, by simp⟩
    unfold KB.find at h
    split at h
    · rename_i he
      injection h with h; subst h; dsimp only at he; subst he
      exact ⟨a8, by simp [symF, vaultOfNothingSym], r8.1, r8.2, by simp⟩
    unfold KB.find at h
    split at h
    · rename_i he
      injection h with h; subst h; dsimp only at he; subst he
      exact ⟨a9, by simp [symF, vaultOfNothingSym], r9.1, r9.2, by simp⟩
    unfold KB.find at h
    split at h
    · rename_i he
      injection h with h; subst h; dsimp only at he; subst he
      exact ⟨a10, by simp [symF, vaultOfNothingSym], r10.1, r10.2, by simp⟩
    unfold KB.find at h
    split at h
    · rename_i he
      injection h with h; subst h; dsimp only at he; subst he
      exact ⟨a0.size, by simp [symF, vaultOfNothingSym], Int.natCast_nonneg _, by show (a0.size : Int) ≤ 9223372036854775807; omega, by simp⟩
    unfold KB.find at h
    split at h
    · rename_i he
      injection h with h; subst h; dsimp only at he; subst he
      exact ⟨a6.size, by simp [symF, vaultOfNothingSym], Int.natCast_nonneg _, by show (a6.size : Int) ≤ 9223372036854775807; omega, by simp⟩
    cases h
  have hS : SOK [0, 6] (symF (vaultOfNothingSym a0 a1 a2 a3 a4 a5 a6 a7 a8 a9 a10)) := by
    intro k hk
    simp only [List.mem_cons, List.not_mem_nil, or_false] at hk
    rcases hk with rfl | rfl
    · exact ⟨a0, by simp [symF, vaultOfNothingSym], by simp [symF, vaultOfNothingSym]⟩
    · exact ⟨a6, by simp [symF, vaultOfNothingSym], by simp [symF, vaultOfNothingSym]⟩
  cases a7 with
  | true =>
    exact Calls.of_tree evMixed evNames vaultOfNothingKnOK hone (EqOK.nil _) hK hS (args := vaultOfNothingArgs0) (args' := #[.string a0, .agg #[.int .i64 a1, .int .i64 a2, .int .i64 a3, .int .i64 a4], .agg #[.int .i64 a5, .string a6, .bool true, .int .i64 a8, .int .i64 a9, .int .i64 a10]]) (fun r hr => by simp [vaultOfNothingArgs0, ren, hr, symF, vaultOfNothingSym]) vaultOfNothingCheck0 w
  | false =>
    exact Calls.of_tree evMixed evNames vaultOfNothingKnOK hone (EqOK.nil _) hK hS (args := vaultOfNothingArgs1) (args' := #[.string a0, .agg #[.int .i64 a1, .int .i64 a2, .int .i64 a3, .int .i64 a4], .agg #[.int .i64 a5, .string a6, .bool false, .int .i64 a8, .int .i64 a9, .int .i64 a10]]) (fun r hr => by simp [vaultOfNothingArgs1, ren, hr, symF, vaultOfNothingSym]) vaultOfNothingCheck1 w
end Go.Proofs.Ytgppgbiebfdnlaa
