/- An argument that is a slice of orders, opened. -/
import Derived.Test.YtekelnkjigaofaaOpenRows
import Derived.Test.YtekelnkjigaofaaBqC
namespace Go.Proofs.Ytekelnkjigaofaa
open Go.RowKit Go.ChangeShapes Go.WideShapes Go.ChangeAt Go.Deep
set_option linter.unusedVariables false
set_option linter.unusedSimpArgs false

set_option maxRecDepth 100000 in
theorem read_od {H : Type} {enc : TypeId × Value → H} {W : World} : ∀ fuel cs x, DataW.trod enc Try.prog W 0 (fun _ => true) true fuel 35 cs = some x → ∃ r : Od, cs = odV r ∧ True := by
  intro fuel cs x h
  obtain ⟨xs2, n2, _, _, hl, hlen2, hf2⟩ := DataW.trod_struct Try.underlying35 h
  have hc : Try.prog.cellsOf 35 = 6 := by kernel_rfl
  have c1 : Try.prog.cellsOf 3 = 1 := by kernel_rfl
  have c2 : Try.prog.cellsOf 9 = 1 := by kernel_rfl
  have c3 : Try.prog.cellsOf 4 = 1 := by kernel_rfl
  rw [hc] at hl
  match cs, hl, xs2, hlen2 with
  | [v0, v1, v2, v3, v4, v5], _, [z0, z1, z2, z3, z4, z5], _ =>
    have p0 := hf2 0 _ rfl
    have p1 := hf2 1 _ rfl
    have p2 := hf2 2 _ rfl
    have p3 := hf2 3 _ rfl
    have p4 := hf2 4 _ rfl
    have p5 := hf2 5 _ rfl
    simp [c1, c2, c3] at p0 p1 p2 p3 p4 p5
    obtain ⟨i, f0, _, _⟩ := DataW.trod_int Try.underlying3 p0
    obtain ⟨s, f1, _, hs⟩ := DataW.trod_string Try.underlying9 p1
    obtain ⟨u, f2, _⟩ := DataW.trod_bool Try.underlying4 p2
    obtain ⟨t, f3, _, _⟩ := DataW.trod_int Try.underlying3 p3
    obtain ⟨c, f4, _, _⟩ := DataW.trod_int Try.underlying3 p4
    obtain ⟨q, f5, _, _⟩ := DataW.trod_int Try.underlying3 p5
    simp only [List.cons.injEq, and_true] at f0 f1 f2 f3 f4 f5
    subst f0 f1 f2 f3 f4 f5
    exact ⟨⟨i, s, u, t, c, q⟩, rfl, trivial⟩
set_option maxRecDepth 100000 in
theorem open_orders {H : Type} {enc : TypeId × Value → H} {W : World} {base : Nat} {v : Value} {d : DataW H} {p : List MemPlace}
    (hv : Value.okWide Try.prog W .any base 28 v) (h : DataW.Trod enc Try.prog W 0 (fun _ => true) true 28 v d p) :
    ∃ (A : Option Addr) (c : Nat) (xs : List Od), v = .slice A xs.length c ∧ xs.length ≤ c ∧ c ≤ maxLen ∧ (∀ r ∈ xs, True) ∧ Cells W W.heap.size A xs.length c 6 (flatO xs) :=
  open_rows odV (fun _ => True) 6 (by omega) (fun _ => rfl) ⟨0, ⟨#[]⟩, false, 0, 0, 0⟩ Try.underlying28 (by kernel_rfl) read_od hv h
end Go.Proofs.Ytekelnkjigaofaa
