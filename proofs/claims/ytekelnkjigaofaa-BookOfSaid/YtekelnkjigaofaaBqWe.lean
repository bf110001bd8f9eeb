/- The document's Place: both. -/
import Derived.Test.YtekelnkjigaofaaBqWet
import Derived.Test.YtekelnkjigaofaaBqWef
import Derived.Test.YtekelnkjigaofaaBqLd
import Derived.Deep.RegionLaw
import Derived.Lib.MinMax
import Derived.Deep.Cut
import Derived.StillTailTactics
namespace Go.Proofs.Ytekelnkjigaofaa
open Go.RowKit
set_option linter.unusedVariables false
set_option linter.unusedSimpArgs false

theorem refPlace (B x : Nat) (u : Value) (last : Int) (L : List Od) (o : Od) (w : World) (h : RfB w B x u L last) (hk : Bk L last) (hlen : L.length ≤ 1000) :
    Calls Try.prog 17 #[.pointer (some ⟨x, 0, none⟩), odA o] w fun e w' => ∃ (T : List Td) (n c : Int) (L' : List Od) (last' : Int) (u' : Value) (tv : Value), e = .returned (.tuple #[tv, .int .i64 n, .int .i64 c]) ∧ PlacedR L last o T n c L' last' ∧ RfB w' B x u' L' last' ∧ w'.ownsRow w.heap.size 60 8 tv T.length (flatT T) ∧ (∀ k, tv.ownBlock = some k → ¬ Fx x u' k) ∧ Touch (Fx x u) w w' ∧ (∀ k, Fx x u' k → Fx x u k ∨ w.heap.size ≤ k) := by
  unfold odA
  cases hb : o.buy with
  | true => exact refPlaceT B x u last L o w h hk hlen hb
  | false => exact refPlaceF B x u last L o w h hk hlen hb
end Go.Proofs.Ytekelnkjigaofaa
