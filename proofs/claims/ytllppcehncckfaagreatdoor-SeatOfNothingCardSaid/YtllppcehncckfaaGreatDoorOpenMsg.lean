/- A message as an argument: its cells. -/
import Derived.Test.YtllppcehncckfaaGreatDoorChecked
import Derived.ProofKit
import Derived.Lib.SmallJoins
namespace Go.Proofs.YtllppcehncckfaaGreatDoor
open Go.ChangeShapes Go.WideShapes Go.ChangeAt Go.RowKit Go.Joins
set_option linter.unusedVariables false
set_option maxRecDepth 100000
theorem open_msg {H : Type} {enc : TypeId × Value → H} {w : World} {base : Nat} {spare : Nat → Bool} {held : Bool} {r : Reach} {b0 : Nat} {v : Value} {d : DataW H} {p : List MemPlace}
    (hv : Value.okWide Tryz.prog w r b0 50 v) (h : DataW.Trod enc Tryz.prog w base spare held 50 v d p) :
    ∃ (f t : Int) (da : Option Addr) (dn dc : Nat), v = .agg #[.int .i64 f, .int .i64 t, .slice da dn dc] ∧ True := by
  obtain ⟨c0, c1, c2, y0, y1, y2, m, rfl, _, _, g0, g1, g2⟩ := open_agg3 Tryz.underlying50 (by kernel_rfl) (by kernel_rfl) hv h
  obtain ⟨f, e0, _, _⟩ := DataW.trod_int Tryz.underlying3 g0
  obtain ⟨t, e1, _, _⟩ := DataW.trod_int Tryz.underlying3 g1
  simp only [List.cons.injEq, and_true] at e0 e1
  subst e0; subst e1
  rcases DataW.trod_slice Tryz.underlying35 g2 with ⟨e2, _⟩ | ⟨a, len, cap, _, _, _, _, e2, _⟩
  · simp only [List.cons.injEq, and_true] at e2
    subst e2
    exact ⟨f, t, none, 0, 0, rfl, trivial⟩
  · simp only [List.cons.injEq, and_true] at e2
    subst e2
    exact ⟨f, t, some a, len, cap, rfl, trivial⟩
end Go.Proofs.YtllppcehncckfaaGreatDoor
