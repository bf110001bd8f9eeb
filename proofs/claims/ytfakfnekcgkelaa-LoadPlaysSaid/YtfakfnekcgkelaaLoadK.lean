/- satrapy/satrapylaw19.known: in parts: all of them. -/
import Derived.Test.YtfakfnekcgkelaaLoadKD
import Derived.Test.YtfakfnekcgkelaaEwM8
import Derived.Test.YtfakfnekcgkelaaSortedAt2
import Derived.ProofKit
namespace Go.Proofs.Ytfakfnekcgkelaa
open Go.RowKit
set_option linter.unusedVariables false
set_option linter.unusedSimpArgs false
set_option maxRecDepth 100000

theorem loadKTop : isTrueL (fCallT Try.prog loadKOrc 100000 (cFnL Try.prog) (tabE0 []) 90 16 [] ⟨.lf, 0, 0, [], []⟩) = true := by kernel_rfl
theorem loadKKnown : KnW Try.prog 16 := by
  intro w
  have hmono : ∀ x, x = (fun _ : Nat => Value.bool false) → SQN x := fun x hx => trivial
  exact Calls.of_fastT evMixed evNames (σ := fun _ => .bool false) (fun _ => rfl) ⟨OrcOK.weak hmono loadKOrc_ok.1, loadKOrc_ok.2⟩ (tableL_self _) ((tabE0_ok (es := []) allNil).mono hmono) (args := #[]) (fun r hr => by simp) w (fun g hg => by cases hg) (fun g _ => Tr.get_lf g) (fun g o h => by rw [Tr.get_lf] at h; cases h) loadKTop
end Go.Proofs.Ytfakfnekcgkelaa
