/- The statement SourceOfNothing: for every input the Go function satrapy/satrapylaw22.SourceOfNothing returns true, and each argument reads behind the call as it did before; without any condition. -/
import Derived.Test.YtngblgojiofjlaaGreatDoorSrcNoneCard0
import Derived.Test.YtngblgojiofjlaaGreatDoorSrcNoneGoes
import Derived.LaidMore
import Derived.SevenTiedAt
import Derived.Stop.Joined
import Derived.ProofKit
import Derived.OpenShut
import Derived.ShutString
import Derived.ChangeOld
import Derived.Below
import Derived.Carry
import Derived.Lib.SmallJoins
namespace Go.Proofs.YtngblgojiofjlaaGreatDoor.sourceOfNothing
open Go.ChangeShapes Go.WideShapes Go.ChangeAt Go.RowKit Go.Joins
open Go.ChangeMaps (open_string shut_string)
set_option linter.unusedVariables false
set_option linter.unusedSimpArgs false

theorem proved : Rows.SourceOfNothingCardSaid := proved1 goes
end Go.Proofs.YtngblgojiofjlaaGreatDoor.sourceOfNothing
