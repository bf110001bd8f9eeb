/- BookPrices: the walk of the statement. -/
import Derived.Test.YtekelnkjigaofaaBqRa
import Derived.Test.YtekelnkjigaofaaBqRb
import Derived.Deep.RegionLaw
namespace Go.Proofs.Ytekelnkjigaofaa
open Go.RowKit
set_option linter.unusedVariables false
set_option linter.unusedSimpArgs false

theorem walkBookPrices (A : Option Addr) (c : Nat) (xs : List Ba) (w : World) (hx : Cells w w.heap.size A xs.length c 8 (xs.flatMap baV)) :
    Calls Try.prog 8 #[.slice A xs.length c] w fun e w' => e = .returned (.bool true) ∧ Below w.heap.size w w' := by
  by_cases h : xs.length ≤ 120
  · exact walkBookPricesA A c xs w hx h
  · exact walkBookPricesB A c xs w hx h
end Go.Proofs.Ytekelnkjigaofaa
