/- An argument that is a api.Order, opened: its cells. -/
import Derived.Test.YtekelnkjigaofaaProg
import Derived.ProofKit
import Derived.OpenShut
import Derived.ShutString
import Derived.Lib.SmallJoins
import Derived.Deep.SlicePairs
import Derived.KernelRfl
namespace Go.Proofs.Ytekelnkjigaofaa
open Go.RowKit Go.ChangeShapes Go.WideShapes Go.ChangeAt Go.Joins Go.Deep
set_option linter.unusedVariables false
set_option linter.unusedSimpArgs false

set_option maxRecDepth 100000 in
theorem open_orderw {H : Type} {enc : TypeId × Value → H} {w : World} {base : Nat} {spare : Nat → Bool} {held : Bool} {r : Reach} {b0 : Nat} {v : Value} {d : DataW H} {p : List MemPlace}
    (hv : Value.okWide Try.prog w r b0 35 v) (h : DataW.Trod enc Try.prog w base spare held 35 v d p) :
    ∃ (a0 : Int) (a1 : ByteArray) (a2 : Bool) (a3 : Int) (a4 : Int) (a5 : Int), v = .agg #[.int .i64 a0, .string a1, .bool a2, .int .i64 a3, .int .i64 a4, .int .i64 a5] ∧ (Lit.int .i64 a0).wf = true ∧ a1.size ≤ maxLen ∧ (Lit.int .i64 a3).wf = true ∧ (Lit.int .i64 a4).wf = true ∧ (Lit.int .i64 a5).wf = true ∧ True := by
  obtain ⟨cs, rfl, hsz⟩ := okWide_struct Try.underlying35 hv
  obtain ⟨c0, c1, c2, c3, c4, c5, rfl⟩ : ∃ c0 c1 c2 c3 c4 c5, cs = #[c0, c1, c2, c3, c4, c5] := by
    obtain ⟨l⟩ := cs
    match l, hsz.trans (show Try.prog.cellsOf 35 = 6 from by kernel_rfl) with
    | [c0, c1, c2, c3, c4, c5], _ => exact ⟨c0, c1, c2, c3, c4, c5, rfl⟩
  obtain ⟨fuel, hf⟩ := h
  obtain ⟨xsr, nr, _, _, _, hlenr, hfr⟩ := DataW.trod_struct Try.underlying35 hf
  obtain ⟨yr_0, yr_1, yr_2, yr_3, yr_4, yr_5, rfl⟩ : ∃ yr_0 yr_1 yr_2 yr_3 yr_4 yr_5, xsr = [yr_0, yr_1, yr_2, yr_3, yr_4, yr_5] := by
    match xsr, hlenr with
    | [yr_0, yr_1, yr_2, yr_3, yr_4, yr_5], _ => exact ⟨yr_0, yr_1, yr_2, yr_3, yr_4, yr_5, rfl⟩
  have gr_0 : DataW.trod enc Try.prog w base spare held nr 3 [c0] = some yr_0 := by
    have q := hfr 0 _ rfl
    have hc : Try.prog.cellsOf 3 = 1 := by kernel_rfl
    simpa [Value.cells, hc] using q
  obtain ⟨a0, e0, _, w0⟩ := DataW.trod_int Try.underlying3 gr_0
  have gr_1 : DataW.trod enc Try.prog w base spare held nr 9 [c1] = some yr_1 := by
    have q := hfr 1 _ rfl
    have hc : Try.prog.cellsOf 9 = 1 := by kernel_rfl
    simpa [Value.cells, hc] using q
  obtain ⟨a1, e1, _, w1⟩ := DataW.trod_string Try.underlying9 gr_1
  have gr_2 : DataW.trod enc Try.prog w base spare held nr 4 [c2] = some yr_2 := by
    have q := hfr 2 _ rfl
    have hc : Try.prog.cellsOf 4 = 1 := by kernel_rfl
    simpa [Value.cells, hc] using q
  obtain ⟨a2, e2, _⟩ := DataW.trod_bool Try.underlying4 gr_2
  have gr_3 : DataW.trod enc Try.prog w base spare held nr 3 [c3] = some yr_3 := by
    have q := hfr 3 _ rfl
    have hc : Try.prog.cellsOf 3 = 1 := by kernel_rfl
    simpa [Value.cells, hc] using q
  obtain ⟨a3, e3, _, w3⟩ := DataW.trod_int Try.underlying3 gr_3
  have gr_4 : DataW.trod enc Try.prog w base spare held nr 3 [c4] = some yr_4 := by
    have q := hfr 4 _ rfl
    have hc : Try.prog.cellsOf 3 = 1 := by kernel_rfl
    simpa [Value.cells, hc] using q
  obtain ⟨a4, e4, _, w4⟩ := DataW.trod_int Try.underlying3 gr_4
  have gr_5 : DataW.trod enc Try.prog w base spare held nr 3 [c5] = some yr_5 := by
    have q := hfr 5 _ rfl
    have hc : Try.prog.cellsOf 3 = 1 := by kernel_rfl
    simpa [Value.cells, hc] using q
  obtain ⟨a5, e5, _, w5⟩ := DataW.trod_int Try.underlying3 gr_5
  simp only [List.cons.injEq, and_true] at e0 e1 e2 e3 e4 e5
  subst e0 e1 e2 e3 e4 e5
  exact ⟨a0, a1, a2, a3, a4, a5, rfl, w0, w1, w3, w4, w5, trivial⟩

end Go.Proofs.Ytekelnkjigaofaa
