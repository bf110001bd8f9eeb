/- A row of numbers among the arguments, with its length. -/
import Derived.Test.YtepjehcmiofehaaPlU
namespace Go.Proofs.Ytepjehcmiofehaa
open Go.RowKit Go.ChangeShapes Go.WideShapes Go.ChangeAt Go.Deep
set_option linter.unusedVariables false
set_option linter.unusedSimpArgs false

set_option maxRecDepth 100000 in
theorem open_hoE {H : Type} {enc : TypeId × Value → H} {W : World} {base : Nat} {v : Value} {d : DataW H} {p : List MemPlace}
    (hv : Value.okWide Try.prog W .any base 25 v) (h : DataW.Trod enc Try.prog W 0 (fun _ => true) true 25 v d p) :
    ∃ (A : Option Addr) (c : Nat) (xs : List Int), v = .slice A xs.length c ∧ Cells W W.heap.size A xs.length c 1 (intsV xs) ∧ xs.length ≤ maxLen := by
  obtain ⟨A, c, xs, e, h1, h2, _, hx⟩ := open_rows (fun r => [Value.int .i64 r]) (fun _ => True) 1 (by omega) (fun _ => rfl) (0 : Int) Try.underlying25 (by kernel_rfl) read_ho hv h
  rw [flat_ints] at hx
  exact ⟨A, c, xs, e, hx, Nat.le_trans h1 h2⟩
end Go.Proofs.Ytepjehcmiofehaa
