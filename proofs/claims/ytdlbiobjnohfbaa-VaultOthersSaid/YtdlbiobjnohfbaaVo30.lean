/- book: Place. -/
import Derived.ProofKit
import Derived.Test.YtdlbiobjnohfbaaProg
import Derived.WalkKit
import Derived.WalkSpells
import Derived.WalkLawsBesides
import Derived.Deep.QuietTactic
import Derived.BigQuiet
import Derived.RegionTactic
import Derived.BigRegion
import Derived.Outline
import Derived.LoopTactic
import Derived.Lib.Hide
import Derived.Deep.RegionHeld3
import Derived.Laws.AppendOwnNone
import Derived.Deep.AppendLies
import Derived.Maps.AppendAt
import Derived.Laws.Rows
import Derived.Laws.OwnMore
import Derived.Deep.RegionLaw
import Derived.Deep.Onto
import Derived.Test.YtdlbiobjnohfbaaVo0
import Derived.Test.YtdlbiobjnohfbaaVo1
import Derived.Test.YtdlbiobjnohfbaaVo2
import Derived.Test.YtdlbiobjnohfbaaVo3
import Derived.Test.YtdlbiobjnohfbaaVo4
import Derived.Test.YtdlbiobjnohfbaaVo5
import Derived.Test.YtdlbiobjnohfbaaVo6
import Derived.Test.YtdlbiobjnohfbaaVo7
import Derived.Test.YtdlbiobjnohfbaaVo8
import Derived.Test.YtdlbiobjnohfbaaVo9
import Derived.Test.YtdlbiobjnohfbaaVo10
import Derived.Test.YtdlbiobjnohfbaaVo11
import Derived.Test.YtdlbiobjnohfbaaVo12
import Derived.Test.YtdlbiobjnohfbaaVo13
import Derived.Test.YtdlbiobjnohfbaaVo26
import Derived.Test.YtdlbiobjnohfbaaVo27
import Derived.Test.YtdlbiobjnohfbaaVo28
import Derived.Test.YtdlbiobjnohfbaaVo29
namespace Go.Proofs.Ytdlbiobjnohfbaa
open Go.RowKit
set_option linter.unusedVariables false
set_option linter.unusedSimpArgs false
theorem bkPlace (Y : Lay) (b : Nat) (v : Nat → Value) (S : Nat → List Od) (last : Int) (L : List Od) (o : Od) (w : World) (h : BkH Y w b v S last) (hr : RelS S L) (hk : Bk L last) (hlen : L.length ≤ 1000) :
    Calls Try.prog 23 #[.pointer (some ⟨b, Y.o, none⟩), odA o] w fun e w' => PlaceQ Y b v L last o w e w' := by
  cases hb : o.buy with
  | true => exact bkPlaceT Y b v S last L o w h hr hk hlen hb
  | false => exact bkPlaceF Y b v S last L o w h hr hk hlen hb
end Go.Proofs.Ytdlbiobjnohfbaa
