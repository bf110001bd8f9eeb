/- satrapy/satrapylaw20.known: in parts: all of them. -/
import Derived.Test.YtljhlnpbomehkaaPlanKB0
import Derived.Test.YtljhlnpbomehkaaPlanKB1
import Derived.Test.YtljhlnpbomehkaaPlanKB2
import Derived.Test.YtljhlnpbomehkaaPlanKB3
import Derived.Test.YtljhlnpbomehkaaEwM8
import Derived.ProofKit
namespace Go.Proofs.Ytljhlnpbomehkaa
open Go.RowKit
set_option linter.unusedVariables false
set_option linter.unusedSimpArgs false
set_option maxRecDepth 100000

theorem planKE144_is : EnOK Try.prog SQN planKE144 := planKE144_ok 
theorem planKE94_is : EnOK Try.prog SQN planKE94 := planKE94_ok 
theorem planKE41_is : EnOK Try.prog SQN planKE41 := planKE41_ok planKE94_is
theorem planKE1_is : EnOK Try.prog SQN planKE1 := planKE1_ok planKE41_is planKE144_is
theorem planKTop : isTrueL (fCallT Try.prog planKOrc 100000 (cFnL Try.prog) (tabE0 [planKE1]) 90 16 [] ⟨.lf, 0, 0, [], []⟩) = true := by kernel_rfl
theorem planKKnown : KnW Try.prog 16 := by
  intro w
  have hmono : ∀ x, x = (fun _ : Nat => Value.bool false) → SQN x := fun x hx => trivial
  exact Calls.of_fastT evMixed evNames (σ := fun _ => .bool false) (fun _ => rfl) ⟨OrcOK.weak hmono planKOrc_ok.1, planKOrc_ok.2⟩ (tableL_self _) ((tabE0_ok (es := [planKE1]) (allCons planKE1_is allNil)).mono hmono) (args := #[]) (fun r hr => by simp) w (fun g hg => by cases hg) (fun g _ => Tr.get_lf g) (fun g o h => by rw [Tr.get_lf] at h; cases h) planKTop
end Go.Proofs.Ytljhlnpbomehkaa
