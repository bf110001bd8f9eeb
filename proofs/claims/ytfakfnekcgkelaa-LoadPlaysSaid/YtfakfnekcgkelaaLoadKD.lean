/- satrapy/satrapylaw19.known: in parts: heaps and calls (0). -/
import Derived.Test.YtfakfnekcgkelaaEwM8
import Derived.Test.YtfakfnekcgkelaaSortedAt2
import Derived.ProofKit
namespace Go.Proofs.Ytfakfnekcgkelaa
open Go.RowKit
set_option linter.unusedVariables false
set_option linter.unusedSimpArgs false
set_option maxRecDepth 100000

def loadKT0 : Tr := .lf
def loadKHook (f : FuncId) : Option (Array Value → LM Value) := (match Nat.beq f 20 with | true => some (fun args => .ofA (aSortedInts 3 [25] args)) | false => (match Nat.beq f 26 with | true => some (fun args => .ofA (aSortedKeys 9 [33] args)) | false => none))
def loadKCut (f : FuncId) : Bool := hasN [20, 22, 26] f
def loadKOrc : OrcL := ⟨noOrc, loadKHook, loadKCut⟩
theorem loadKHook_ok : ∀ f m, loadKHook f = some m → FunOKL Try.prog f m := by
  intro f m h
  unfold loadKHook at h
  split at h
  · rename_i hb; injection h with h; subst h; rw [Nat.eq_of_beq_eq_true hb]
    refine (aSortedInts_sound (fun g hg => ?_)).toL
    simp at hg
    subst hg
    · exact sortedAt25
  · skip
    split at h
    · rename_i hb; injection h with h; subst h; rw [Nat.eq_of_beq_eq_true hb]
      refine (aSortedKeys_sound (fun g hg => ?_)).toL
      simp at hg
      subst hg
      · exact sortedAt33
    · skip
      cases h
theorem loadKOrc_ok : OrcLOK Try.prog SQN loadKOrc := OrcLOK.mk' (noOrcN _) loadKHook_ok
end Go.Proofs.Ytfakfnekcgkelaa
