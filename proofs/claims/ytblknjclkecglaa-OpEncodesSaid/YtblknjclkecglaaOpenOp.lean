/- An argument that is a api.Op, opened: its cells. -/
import Derived.Test.YtblknjclkecglaaProg
import Derived.ProofKit
import Derived.OpenShut
import Derived.ShutString
import Derived.Lib.SmallJoins
import Derived.Deep.SlicePairs
import Derived.KernelRfl
namespace Go.Proofs.Ytblknjclkecglaa
open Go.RowKit Go.ChangeShapes Go.WideShapes Go.ChangeAt Go.Joins Go.Deep
set_option linter.unusedVariables false
set_option linter.unusedSimpArgs false

set_option maxRecDepth 100000 in
theorem open_op {H : Type} {enc : TypeId × Value → H} {w : World} {base : Nat} {spare : Nat → Bool} {held : Bool} {r : Reach} {b0 : Nat} {v : Value} {d : DataW H} {p : List MemPlace}
    (hv : Value.okWide Try.prog w r b0 25 v) (h : DataW.Trod enc Try.prog w base spare held 25 v d p) :
    ∃ (a0 : Int) (a1 : Int) (a2 : Int) (a3 : ByteArray) (a4 : ByteArray) (a5 : ByteArray) (a6 : ByteArray) (a7 : Int) (a8 : Int) (a9 : Int) (a10 : Bool) (a11 : Int), v = .agg #[.int .i64 a0, .int .i64 a1, .int .i64 a2, .string a3, .string a4, .string a5, .string a6, .int .i64 a7, .int .i64 a8, .int .i64 a9, .bool a10, .int .i64 a11] ∧ (Lit.int .i64 a0).wf = true ∧ (Lit.int .i64 a1).wf = true ∧ (Lit.int .i64 a2).wf = true ∧ a3.size ≤ maxLen ∧ a4.size ≤ maxLen ∧ a5.size ≤ maxLen ∧ a6.size ≤ maxLen ∧ (Lit.int .i64 a7).wf = true ∧ (Lit.int .i64 a8).wf = true ∧ (Lit.int .i64 a9).wf = true ∧ (Lit.int .i64 a11).wf = true ∧ True := by
  obtain ⟨cs, rfl, hsz⟩ := okWide_struct Try.underlying25 hv
  obtain ⟨c0, c1, c2, c3, c4, c5, c6, c7, c8, c9, c10, c11, rfl⟩ : ∃ c0 c1 c2 c3 c4 c5 c6 c7 c8 c9 c10 c11, cs = #[c0, c1, c2, c3, c4, c5, c6, c7, c8, c9, c10, c11] := by
    obtain ⟨l⟩ := cs
    match l, hsz.trans (show Try.prog.cellsOf 25 = 12 from by kernel_rfl) with
    | [c0, c1, c2, c3, c4, c5, c6, c7, c8, c9, c10, c11], _ => exact ⟨c0, c1, c2, c3, c4, c5, c6, c7, c8, c9, c10, c11, rfl⟩
  obtain ⟨fuel, hf⟩ := h
  obtain ⟨xsr, nr, _, _, _, hlenr, hfr⟩ := DataW.trod_struct Try.underlying25 hf
  obtain ⟨yr_0, yr_1, yr_2, yr_3, yr_4, yr_5, yr_6, yr_7, yr_8, yr_9, rfl⟩ : ∃ yr_0 yr_1 yr_2 yr_3 yr_4 yr_5 yr_6 yr_7 yr_8 yr_9, xsr = [yr_0, yr_1, yr_2, yr_3, yr_4, yr_5, yr_6, yr_7, yr_8, yr_9] := by
    match xsr, hlenr with
    | [yr_0, yr_1, yr_2, yr_3, yr_4, yr_5, yr_6, yr_7, yr_8, yr_9], _ => exact ⟨yr_0, yr_1, yr_2, yr_3, yr_4, yr_5, yr_6, yr_7, yr_8, yr_9, rfl⟩
  have gr_0 : DataW.trod enc Try.prog w base spare held nr 3 [c0] = some yr_0 := by
    have q := hfr 0 _ rfl
    have hc : Try.prog.cellsOf 3 = 1 := by kernel_rfl
    simpa [Value.cells, hc] using q
  obtain ⟨a0, e0, _, w0⟩ := DataW.trod_int Try.underlying3 gr_0
  have gr_1 : DataW.trod enc Try.prog w base spare held nr 3 [c1] = some yr_1 := by
    have q := hfr 1 _ rfl
    have hc : Try.prog.cellsOf 3 = 1 := by kernel_rfl
    simpa [Value.cells, hc] using q
  obtain ⟨a1, e1, _, w1⟩ := DataW.trod_int Try.underlying3 gr_1
  have gr_2 : DataW.trod enc Try.prog w base spare held nr 3 [c2] = some yr_2 := by
    have q := hfr 2 _ rfl
    have hc : Try.prog.cellsOf 3 = 1 := by kernel_rfl
    simpa [Value.cells, hc] using q
  obtain ⟨a2, e2, _, w2⟩ := DataW.trod_int Try.underlying3 gr_2
  have gr_3 : DataW.trod enc Try.prog w base spare held nr 23 [c3, c4] = some yr_3 := by
    have q := hfr 3 _ rfl
    have hc : Try.prog.cellsOf 23 = 2 := by kernel_rfl
    simpa [Value.cells, hc] using q
  have gr_4 : DataW.trod enc Try.prog w base spare held nr 23 [c5, c6] = some yr_4 := by
    have q := hfr 4 _ rfl
    have hc : Try.prog.cellsOf 23 = 2 := by kernel_rfl
    simpa [Value.cells, hc] using q
  have gr_5 : DataW.trod enc Try.prog w base spare held nr 3 [c7] = some yr_5 := by
    have q := hfr 5 _ rfl
    have hc : Try.prog.cellsOf 3 = 1 := by kernel_rfl
    simpa [Value.cells, hc] using q
  obtain ⟨a7, e7, _, w7⟩ := DataW.trod_int Try.underlying3 gr_5
  have gr_6 : DataW.trod enc Try.prog w base spare held nr 3 [c8] = some yr_6 := by
    have q := hfr 6 _ rfl
    have hc : Try.prog.cellsOf 3 = 1 := by kernel_rfl
    simpa [Value.cells, hc] using q
  obtain ⟨a8, e8, _, w8⟩ := DataW.trod_int Try.underlying3 gr_6
  have gr_7 : DataW.trod enc Try.prog w base spare held nr 3 [c9] = some yr_7 := by
    have q := hfr 7 _ rfl
    have hc : Try.prog.cellsOf 3 = 1 := by kernel_rfl
    simpa [Value.cells, hc] using q
  obtain ⟨a9, e9, _, w9⟩ := DataW.trod_int Try.underlying3 gr_7
  have gr_8 : DataW.trod enc Try.prog w base spare held nr 4 [c10] = some yr_8 := by
    have q := hfr 8 _ rfl
    have hc : Try.prog.cellsOf 4 = 1 := by kernel_rfl
    simpa [Value.cells, hc] using q
  obtain ⟨a10, e10, _⟩ := DataW.trod_bool Try.underlying4 gr_8
  have gr_9 : DataW.trod enc Try.prog w base spare held nr 3 [c11] = some yr_9 := by
    have q := hfr 9 _ rfl
    have hc : Try.prog.cellsOf 3 = 1 := by kernel_rfl
    simpa [Value.cells, hc] using q
  obtain ⟨a11, e11, _, w11⟩ := DataW.trod_int Try.underlying3 gr_9
  obtain ⟨xsr3, nr3, _, _, _, hlenr3, hfr3⟩ := DataW.trod_struct Try.underlying23 gr_3
  obtain ⟨yr3_0, yr3_1, rfl⟩ : ∃ yr3_0 yr3_1, xsr3 = [yr3_0, yr3_1] := by
    match xsr3, hlenr3 with
    | [yr3_0, yr3_1], _ => exact ⟨yr3_0, yr3_1, rfl⟩
  have gr3_0 : DataW.trod enc Try.prog w base spare held nr3 9 [c3] = some yr3_0 := by
    have q := hfr3 0 _ rfl
    have hc : Try.prog.cellsOf 9 = 1 := by kernel_rfl
    simpa [Value.cells, hc] using q
  obtain ⟨a3, e3, _, w3⟩ := DataW.trod_string Try.underlying9 gr3_0
  have gr3_1 : DataW.trod enc Try.prog w base spare held nr3 9 [c4] = some yr3_1 := by
    have q := hfr3 1 _ rfl
    have hc : Try.prog.cellsOf 9 = 1 := by kernel_rfl
    simpa [Value.cells, hc] using q
  obtain ⟨a4, e4, _, w4⟩ := DataW.trod_string Try.underlying9 gr3_1
  obtain ⟨xsr4, nr4, _, _, _, hlenr4, hfr4⟩ := DataW.trod_struct Try.underlying23 gr_4
  obtain ⟨yr4_0, yr4_1, rfl⟩ : ∃ yr4_0 yr4_1, xsr4 = [yr4_0, yr4_1] := by
    match xsr4, hlenr4 with
    | [yr4_0, yr4_1], _ => exact ⟨yr4_0, yr4_1, rfl⟩
  have gr4_0 : DataW.trod enc Try.prog w base spare held nr4 9 [c5] = some yr4_0 := by
    have q := hfr4 0 _ rfl
    have hc : Try.prog.cellsOf 9 = 1 := by kernel_rfl
    simpa [Value.cells, hc] using q
  obtain ⟨a5, e5, _, w5⟩ := DataW.trod_string Try.underlying9 gr4_0
  have gr4_1 : DataW.trod enc Try.prog w base spare held nr4 9 [c6] = some yr4_1 := by
    have q := hfr4 1 _ rfl
    have hc : Try.prog.cellsOf 9 = 1 := by kernel_rfl
    simpa [Value.cells, hc] using q
  obtain ⟨a6, e6, _, w6⟩ := DataW.trod_string Try.underlying9 gr4_1
  simp only [List.cons.injEq, and_true] at e0 e1 e2 e3 e4 e5 e6 e7 e8 e9 e10 e11
  subst e0 e1 e2 e3 e4 e5 e6 e7 e8 e9 e10 e11
  exact ⟨a0, a1, a2, a3, a4, a5, a6, a7, a8, a9, a10, a11, rfl, w0, w1, w2, w3, w4, w5, w6, w7, w8, w9, w11, trivial⟩

end Go.Proofs.Ytblknjclkecglaa
