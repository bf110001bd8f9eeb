/- PieceOfNothing returns true. -/
import Derived.Test.YtliljfncbljfpaaPieceK
import Derived.Test.YtliljfncbljfpaaOpenBytes
namespace Go.Proofs.Ytliljfncbljfpaa
open Go.RowKit
set_option linter.unusedVariables false
set_option linter.unusedSimpArgs false

set_option maxHeartbeats 1000000 in
set_option maxRecDepth 10000 in
theorem walkPieceOfNothing (n : Int) (A : Option Addr) (c : Nat) (xs : List Nat) (w : World) :
    Calls Try.prog 11 #[.int .i64 n, .slice A xs.length c] w fun e w' => e = .returned (.bool true) ∧ Below w.heap.size w w' := by
  by_cases hl : (xs.length : Int) ≤ 3000
  · have hn : ¬ (3000 : Int) < (xs.length : Int) := by omega
    go_enter Try.func11, Try.ntmps11
    go_wp2_with (first
      | (go_at_call 28; refine (poNextNil _).mono ?_; rintro e w1 ⟨rfl, rfl⟩)
      | (go_at_call 34; refine (poAckNil _ _).mono ?_; rintro e w1 ⟨rfl, rfl⟩)
      | (go_at_call 33; refine (poSizeNil _).mono ?_; rintro e w1 ⟨rfl, rfl⟩)
      | (go_at_call 39; refine (piTakeNil _ _ _).mono ?_; rintro e w1 ⟨rfl, rfl⟩)
      | (go_at_call 42; refine (piBytesNil _).mono ?_; rintro e w1 ⟨rfl, rfl⟩)
      | (go_at_call 31; refine (poWholeNil _).mono ?_; rintro e wa ⟨rfl, hba⟩)
      | (go_at_call 43; refine (piWholeNil _).mono ?_; rintro e wb ⟨rfl, hbb⟩)
      | (go_at_call 36; refine (knownPiece _).mono ?_; rintro e wc ⟨rfl, hbc⟩))
    go_ret
    exact ⟨rfl, (hba.trans (hbb.mono hba.size)).trans (hbc.mono (Nat.le_trans hba.size hbb.size))⟩
  · have hn : (3000 : Int) < (xs.length : Int) := by omega
    clear hl
    go_enter Try.func11, Try.ntmps11
    go_wp2_with fail
    go_ret
    exact ⟨rfl, Below.refl _ _⟩

end Go.Proofs.Ytliljfncbljfpaa
