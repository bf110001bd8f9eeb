/- The statement SourceOfNothing: for every input the Go function satrapy/satrapylaw22.SourceOfNothing returns true, and each argument reads behind the call as it did before; without any condition. -/
import Derived.Test.YtngblgojiofjlaaGreatDoorRows
import Derived.Test.YtngblgojiofjlaaGreatDoorCards
import Derived.LaidMore
import Derived.SevenTiedAt
import Derived.Stop.Joined
import Derived.ProofKit
import Derived.OpenShut
import Derived.ShutString
import Derived.ChangeOld
import Derived.Below
import Derived.Carry
import Derived.Lib.SmallJoins
namespace Go.Proofs.YtngblgojiofjlaaGreatDoor.sourceOfNothing
open Go.ChangeShapes Go.WideShapes Go.ChangeAt Go.RowKit Go.Joins
open Go.ChangeMaps (open_string shut_string)
set_option linter.unusedVariables false
set_option linter.unusedSimpArgs false

theorem goes_none {P : Program} (h : P.funcs.toList.any Func.goes = false) (f : FuncId) : P.goes f = false := by
  have hm : ∀ x ∈ P.funcs.toList, Func.goes x = false := fun x hx => by
    cases e : Func.goes x with
    | false => rfl
    | true => rw [List.any_eq_false] at h; exact absurd e (h x hx)
  have h1 : ((P.closure f).any fun g => (P.funcs[g]?).any Func.goes) = false := by
    rw [List.any_eq_false]
    intro g _
    cases e : P.funcs[g]? with
    | none => simp
    | some fn =>
      have : fn ∈ P.funcs.toList := by simpa using Array.mem_of_getElem? e
      simp [hm fn this]
  have h2 : P.funcs.any Func.goes = false := by rw [← Array.any_toList]; exact h
  unfold Program.goes
  rw [h1, h2]; simp
theorem noGoes : Tryz.pinned.checked.prog.funcs.toList.any Func.goes = false := by kernel_rfl
theorem goes : false = Rows.sourceOfNothingRow.goesBy Tryz.pinned.checked.prog := by
  have h0 : Rows.sourceOfNothingRow.start = .entering := rfl
  unfold OpenClaim.goesBy Program.goesAt Program.goesFrom
  rw [h0]
  cases e : Tryz.pinned.checked.prog.funcNamed Rows.sourceOfNothingRow.func with
  | none => rfl
  | some f => simp [goes_none noGoes f]
end Go.Proofs.YtngblgojiofjlaaGreatDoor.sourceOfNothing
