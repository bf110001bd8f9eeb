/- BookSums: the walk of the statement. -/
import Derived.Test.YtekelnkjigaofaaBqVb
import Derived.Test.YtekelnkjigaofaaBqVc
namespace Go.Proofs.Ytekelnkjigaofaa
open Go.RowKit
theorem walkBookSums (A : Option Addr) (c : Nat) (xs : List Ba) (w : World) (hx : Cells w w.heap.size A xs.length c 8 (xs.flatMap baV)) :
    Calls Try.prog 6 #[.slice A xs.length c] w fun e w' => e = .returned (.bool true) ∧ Below w.heap.size w w' := by
  by_cases h : xs.length ≤ 120
  · exact walkBookSumsA A c xs w hx h
  · exact walkBookSumsB A c xs w hx (by omega)
end Go.Proofs.Ytekelnkjigaofaa
