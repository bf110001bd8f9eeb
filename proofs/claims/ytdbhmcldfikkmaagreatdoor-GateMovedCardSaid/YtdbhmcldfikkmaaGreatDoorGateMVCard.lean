/- The statement GateMoved: for every input the Go function satrapy/satrapylaw25.GateMoved returns true, and each argument reads behind the call as it did before; without any condition. -/
import Derived.Test.YtdbhmcldfikkmaaGreatDoorGateMVProof
import Derived.LaidMore
import Derived.SevenTiedAt
import Derived.Stop.Joined
import Derived.ProofKit
import Derived.OpenShut
import Derived.ShutString
import Derived.ChangeOld
import Derived.Below
import Derived.Carry
import Derived.Lib.SmallJoins
namespace Go.Proofs.YtdbhmcldfikkmaaGreatDoor.gateMoved
open Go.ChangeShapes Go.WideShapes Go.ChangeAt Go.RowKit Go.Joins
open Go.ChangeMaps (open_string shut_string)
set_option linter.unusedVariables false
set_option linter.unusedSimpArgs false

theorem goes_none {P : Program} (h : P.funcs.toList.any Func.goes = false) (f : FuncId) : P.goes f = false := by
  have hm : ∀ x ∈ P.funcs.toList, Func.goes x = false := fun x hx => by
    cases e : Func.goes x with
    | false => rfl
    | true => rw [List.any_eq_false] at h; exact absurd e (h x hx)
  have h1 : ((P.closure f).any fun g => (P.funcs[g]?).any Func.goes) = false := by
    rw [List.any_eq_false]
    intro g _
    cases e : P.funcs[g]? with
    | none => simp
    | some fn =>
      have : fn ∈ P.funcs.toList := by simpa using Array.mem_of_getElem? e
      simp [hm fn this]
  have h2 : P.funcs.any Func.goes = false := by rw [← Array.any_toList]; exact h
  unfold Program.goes
  rw [h1, h2]; simp
theorem noGoes : Tryz.pinned.checked.prog.funcs.toList.any Func.goes = false := by kernel_rfl
theorem goes : false = Rows.gateMovedRow.goesBy Tryz.pinned.checked.prog := by
  have h0 : Rows.gateMovedRow.start = .entering := rfl
  unfold OpenClaim.goesBy Program.goesAt Program.goesFrom
  rw [h0]
  cases e : Tryz.pinned.checked.prog.funcNamed Rows.gateMovedRow.func with
  | none => rfl
  | some f => simp [goes_none noGoes f]
set_option maxHeartbeats 1000000000 in
set_option maxRecDepth 100000 in
theorem proved : Rows.GateMovedCardSaid :=
  Claim7.holds_tied_plain_at .later [] [.data, .data] true Rows.gateMovedCard.stood.harness false
    proved0 (fun _ h => by cases h) (by as_aux_lemma => kernel_rfl) (fun _ h => by cases h) gateMoved_row_tie rfl ⟨rfl, rfl⟩ (by as_aux_lemma => kernel_rfl) rfl
    (fun f fn hf hfn => by
      obtain rfl : f = 3 := Option.some.inj ((show Tryz.prog.funcNamed "satrapy/satrapylaw25.GateMoved" = some 3 by as_aux_lemma => kernel_rfl).symm.trans hf) |>.symm
      obtain rfl : fn = Tryz.f3 := (Option.some.inj (Tryz.func3.symm.trans hfn)).symm
      exact ⟨by as_aux_lemma => kernel_rfl, fun j t ht => by
        rw [Tryz.params3] at ht
        have hm : t ∈ [3, 3, 3] := by simpa using Array.mem_of_getElem? ht
        have hall : ([3, 3, 3].all fun u => !Tryz.prog.wantsStandIn u) = true := by as_aux_lemma => kernel_rfl
        exact (show Tryz.prog.wantsStandIn t = false by simpa using List.all_eq_true.1 hall t hm)⟩)
    goes
end Go.Proofs.YtdbhmcldfikkmaaGreatDoor.gateMoved
