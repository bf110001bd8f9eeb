/- An argument that is a purse, opened: its four numbers. -/
import Derived.Test.YtgppgbiebfdnlaaBase
import Derived.ProofKit
import Derived.OpenShut
import Derived.Laws.IdiomArrays
namespace Go.Proofs.Ytgppgbiebfdnlaa
open Go.RowKit Go.ChangeShapes Go.WideShapes Go.ChangeAt
set_option linter.unusedVariables false
set_option linter.unusedSimpArgs false
set_option maxRecDepth 100000

theorem trod_items {H : Type} {enc : TypeId × Value → H} {W : World} {fuel : Nat} {cs : List Value} {x : DataW H × List MemPlace} (h : DataW.trod enc Try.prog W 0 (fun _ => true) true fuel 37 cs = some x) :
    ∃ a b c d : Int, cs = [.int .i64 a, .int .i64 b, .int .i64 c, .int .i64 d] ∧ ((Lit.int .i64 a).wf = true ∧ (Lit.int .i64 b).wf = true ∧ (Lit.int .i64 c).wf = true ∧ (Lit.int .i64 d).wf = true) := by
  obtain ⟨xs, m, _, _, hlen, hxl, hall⟩ := DataW.trod_array Try.underlying37 h
  have hC : Try.prog.cellsOf 37 = 4 := by kernel_rfl
  have hE : Try.prog.cellsOf 3 = 1 := by kernel_rfl
  rw [hC] at hlen
  match cs, hlen with
  | [c0, c1, c2, c3], _ =>
    match xs, hxl with
    | [y0, y1, y2, y3], _ =>
      have h0 := hall 0 (by omega)
      have h1 := hall 1 (by omega)
      have h2 := hall 2 (by omega)
      have h3 := hall 3 (by omega)
      rw [hE] at h0 h1 h2 h3
      obtain ⟨a, e0, _, w0⟩ := DataW.trod_int (x := y0) Try.underlying3 (by simpa using h0)
      obtain ⟨b, e1, _, w1⟩ := DataW.trod_int (x := y1) Try.underlying3 (by simpa using h1)
      obtain ⟨c, e2, _, w2⟩ := DataW.trod_int (x := y2) Try.underlying3 (by simpa using h2)
      obtain ⟨d, e3, _, w3⟩ := DataW.trod_int (x := y3) Try.underlying3 (by simpa using h3)
      simp only [List.cons.injEq, and_true] at e0 e1 e2 e3
      exact ⟨a, b, c, d, by rw [e0, e1, e2, e3], w0, w1, w2, w3⟩

theorem open_items {H : Type} {enc : TypeId × Value → H} {W : World} {base : Nat} {v : Value} {d : DataW H} {p : List MemPlace}
    (hv : Value.okWide Try.prog W .any base 37 v) (h : DataW.Trod enc Try.prog W 0 (fun _ => true) true 37 v d p) :
    ∃ a b c d : Int, v = .agg #[.int .i64 a, .int .i64 b, .int .i64 c, .int .i64 d] ∧ ((Lit.int .i64 a).wf = true ∧ (Lit.int .i64 b).wf = true ∧ (Lit.int .i64 c).wf = true ∧ (Lit.int .i64 d).wf = true) := by
  simp only [Value.okWide, Try.underlying37] at hv
  obtain ⟨cs, rfl, _⟩ := hv
  obtain ⟨fuel, hf⟩ := h
  obtain ⟨a, b, c, d, e, hw⟩ := trod_items hf
  refine ⟨a, b, c, d, ?_, hw⟩
  have : cs.toList = [.int .i64 a, .int .i64 b, .int .i64 c, .int .i64 d] := by simpa [Value.cells] using e
  rw [← Array.toArray_toList (xs := cs), this]

end Go.Proofs.Ytgppgbiebfdnlaa
