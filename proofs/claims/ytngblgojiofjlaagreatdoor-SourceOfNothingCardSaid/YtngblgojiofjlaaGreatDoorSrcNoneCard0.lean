/- The statement SourceOfNothing: for every input the Go function satrapy/satrapylaw22.SourceOfNothing returns true, and each argument reads behind the call as it did before; without any condition. -/
import Derived.Test.YtngblgojiofjlaaGreatDoorSrcNoneProof
import Derived.LaidMore
import Derived.SevenTiedAt
import Derived.Stop.Joined
import Derived.ProofKit
import Derived.OpenShut
import Derived.ShutString
import Derived.ChangeOld
import Derived.Below
import Derived.Carry
import Derived.Lib.SmallJoins
namespace Go.Proofs.YtngblgojiofjlaaGreatDoor.sourceOfNothing
open Go.ChangeShapes Go.WideShapes Go.ChangeAt Go.RowKit Go.Joins
open Go.ChangeMaps (open_string shut_string)
set_option linter.unusedVariables false
set_option linter.unusedSimpArgs false

set_option maxHeartbeats 1000000000 in
set_option maxRecDepth 100000 in
theorem proved1 (hg : false = Rows.sourceOfNothingRow.goesBy Tryz.pinned.checked.prog) : Rows.SourceOfNothingCardSaid :=
  Claim7.holds_tied_plain_at .later [] [.data, .data, .data, .data, .data] true Rows.sourceOfNothingCard.stood.harness true
    proved0 (fun _ h => by cases h) (by as_aux_lemma => kernel_rfl) (fun _ h => by cases h) sourceOfNothing_row_tie rfl ⟨rfl, rfl⟩ (by as_aux_lemma => kernel_rfl) rfl
    (fun f fn hf hfn => by
      obtain rfl : f = 3 := Option.some.inj ((show Tryz.prog.funcNamed "satrapy/satrapylaw22.SourceOfNothing" = some 3 by as_aux_lemma => kernel_rfl).symm.trans hf) |>.symm
      obtain rfl : fn = Tryz.f3 := (Option.some.inj (Tryz.func3.symm.trans hfn)).symm
      exact ⟨by as_aux_lemma => kernel_rfl, fun j t ht => by
        rw [Tryz.params3] at ht
        have hm : t ∈ [3, 40] := by simpa using Array.mem_of_getElem? ht
        have hall : ([3, 40].all fun u => !Tryz.prog.wantsStandIn u) = true := by as_aux_lemma => kernel_rfl
        exact (show Tryz.prog.wantsStandIn t = false by simpa using List.all_eq_true.1 hall t hm)⟩)
    hg
end Go.Proofs.YtngblgojiofjlaaGreatDoor.sourceOfNothing
