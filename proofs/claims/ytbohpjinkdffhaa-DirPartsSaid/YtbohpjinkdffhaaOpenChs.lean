/- An argument that is a slice of changes of a directory, opened. -/
import Derived.Test.YtbohpjinkdffhaaOpenRows
import Derived.Test.YtbohpjinkdffhaaDrS
namespace Go.Proofs.Ytbohpjinkdffhaa
open Go.RowKit Go.ChangeShapes Go.WideShapes Go.ChangeAt Go.Deep
set_option linter.unusedVariables false
set_option linter.unusedSimpArgs false

def chQ (a : Ch) : Prop := (Lit.int .i64 a.kd).wf = true ∧ (Lit.int .i64 a.zo).wf = true ∧ (Lit.int .i64 a.ep).wf = true ∧ (Lit.int .i64 a.mv).wf = true ∧ a.ky.size ≤ maxLen
set_option maxRecDepth 100000 in
theorem read_ch {H : Type} {enc : TypeId × Value → H} {W : World} : ∀ fuel cs x, DataW.trod enc Try.prog W 0 (fun _ => true) true fuel 47 cs = some x → ∃ r : Ch, cs = chV r ∧ chQ r := by
  intro fuel cs x h
  obtain ⟨xs, n, _, _, hl, hlen, hf⟩ := DataW.trod_struct Try.underlying47 h
  have hc : Try.prog.cellsOf 47 = 5 := by kernel_rfl
  have c1 : Try.prog.cellsOf 3 = 1 := by kernel_rfl
  have c2 : Try.prog.cellsOf 9 = 1 := by kernel_rfl
  rw [hc] at hl
  match cs, hl, xs, hlen with
  | [v0, v1, v2, v3, v4], _, [y0, y1, y2, y3, y4], _ =>
    have g0 := hf 0 _ rfl
    have g1 := hf 1 _ rfl
    have g2 := hf 2 _ rfl
    have g3 := hf 3 _ rfl
    have g4 := hf 4 _ rfl
    simp [c1, c2] at g0 g1 g2 g3 g4
    obtain ⟨k, e0, _, w0⟩ := DataW.trod_int Try.underlying3 g0
    obtain ⟨z, e1, _, w1⟩ := DataW.trod_int Try.underlying3 g1
    obtain ⟨p, e2, _, w2⟩ := DataW.trod_int Try.underlying3 g2
    obtain ⟨q, e3, _, w3⟩ := DataW.trod_int Try.underlying3 g3
    obtain ⟨s, e4, _, w4⟩ := DataW.trod_string Try.underlying9 g4
    simp only [List.cons.injEq, and_true] at e0 e1 e2 e3 e4
    subst e0 e1 e2 e3 e4
    exact ⟨⟨k, z, p, q, s⟩, rfl, ⟨by assumption, by assumption, by assumption, by assumption, by assumption⟩⟩
set_option maxRecDepth 100000 in
theorem open_chs {H : Type} {enc : TypeId × Value → H} {W : World} {base : Nat} {v : Value} {d : DataW H} {p : List MemPlace}
    (hv : Value.okWide Try.prog W .any base 23 v) (h : DataW.Trod enc Try.prog W 0 (fun _ => true) true 23 v d p) :
    ∃ (A : Option Addr) (c : Nat) (xs : List Ch), v = .slice A xs.length c ∧ xs.length ≤ c ∧ c ≤ maxLen ∧ (∀ r ∈ xs, chQ r) ∧ Cells W W.heap.size A xs.length c 5 (xs.flatMap chV) :=
  open_rows chV chQ 5 (by omega) (fun _ => rfl) ⟨0, 0, 0, 0, ⟨#[]⟩⟩ Try.underlying23 (by kernel_rfl) read_ch hv h
end Go.Proofs.Ytbohpjinkdffhaa
