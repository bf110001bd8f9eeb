/- satrapy/satrapylaw10.known: in parts: heaps and calls (0). -/
import Derived.Test.YtblknjclkecglaaEwM9
import Derived.ProofKit
namespace Go.Proofs.Ytblknjclkecglaa
open Go.RowKit
set_option linter.unusedVariables false
set_option linter.unusedSimpArgs false
set_option maxRecDepth 100000

def opKnT0 : Tr := .lf
def opKnHook (f : FuncId) : Option (Array Value → LM Value) := none
def opKnCut (f : FuncId) : Bool := hasN [] f
def opKnOrc : OrcL := ⟨noOrc, opKnHook, opKnCut⟩
theorem opKnHook_ok : ∀ f m, opKnHook f = some m → FunOKL Try.prog f m := by
  intro f m h
  unfold opKnHook at h
  cases h
theorem opKnOrc_ok : OrcLOK Try.prog SQN opKnOrc := OrcLOK.mk' (noOrcN _) opKnHook_ok
end Go.Proofs.Ytblknjclkecglaa
