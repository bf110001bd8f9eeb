/- book: Place. -/
import Derived.Test.YtekelnkjigaofaaBqLt
import Derived.Test.YtekelnkjigaofaaBqLf
import Derived.Deep.RegionLaw
namespace Go.Proofs.Ytekelnkjigaofaa
open Go.RowKit
set_option linter.unusedVariables false
set_option linter.unusedSimpArgs false

theorem bkPlace (b : Nat) (v : Nat → Value) (S : Nat → List Od) (last : Int) (L : List Od) (o : Od) (w : World) (h : BkH w b v S last) (hr : RelS S L) (hk : Bk L last) (hlen : L.length ≤ 1000) :
    Calls Try.prog 16 #[.pointer (some ⟨b, 0, none⟩), odA o] w fun e w' => PlaceQ b v L last o w e w' := by
  cases hb : o.buy with
  | true => exact bkPlaceT b v S last L o w h hr hk hlen hb
  | false => exact bkPlaceF b v S last L o w h hr hk hlen hb
end Go.Proofs.Ytekelnkjigaofaa
