/- A row of hosts, and a table, among the arguments. -/
import Derived.Test.YtepjehcmiofehaaGreatPlQ
namespace Go.Proofs.YtepjehcmiofehaaGreat
open Go.RowKit Go.ChangeShapes Go.WideShapes Go.ChangeAt Go.Deep
set_option linter.unusedVariables false
set_option linter.unusedSimpArgs false

theorem read_ho {H : Type} {enc : TypeId × Value → H} {W : World} : ∀ fuel cs x, DataW.trod enc Tryz.prog W 0 (fun _ => true) true fuel 3 cs = some x → ∃ r : Int, cs = [.int .i64 r] ∧ True := by
  intro fuel cs x h
  obtain ⟨r, e, _, w0⟩ := DataW.trod_int Tryz.underlying3 h
  exact ⟨r, e, trivial⟩
theorem flat_ints : ∀ (l : List Int), l.flatMap (fun r => [Value.int .i64 r]) = intsV l
  | [] => rfl
  | a :: r => by
    rw [List.flatMap_cons, flat_ints r]
    rfl
set_option maxRecDepth 100000 in
theorem open_ho {H : Type} {enc : TypeId × Value → H} {W : World} {base : Nat} {v : Value} {d : DataW H} {p : List MemPlace}
    (hv : Value.okWide Tryz.prog W .any base 25 v) (h : DataW.Trod enc Tryz.prog W 0 (fun _ => true) true 25 v d p) :
    ∃ (A : Option Addr) (c : Nat) (xs : List Int), v = .slice A xs.length c ∧ Cells W W.heap.size A xs.length c 1 (intsV xs) := by
  obtain ⟨A, c, xs, e, _, _, _, hx⟩ := open_rows (fun r => [Value.int .i64 r]) (fun _ => True) 1 (by omega) (fun _ => rfl) (0 : Int) Tryz.underlying25 (by kernel_rfl) read_ho hv h
  rw [flat_ints] at hx
  exact ⟨A, c, xs, e, hx⟩
set_option maxRecDepth 100000 in
theorem read_lr {H : Type} {enc : TypeId × Value → H} {W : World} : ∀ fuel cs x, DataW.trod enc Tryz.prog W 0 (fun _ => true) true fuel 34 cs = some x → ∃ r : Lr, cs = lrV r ∧ True := by
  intro fuel cs x h
  obtain ⟨xs, n, _, _, hl, hlen, hf⟩ := DataW.trod_struct Tryz.underlying34 h
  have hc : Tryz.prog.cellsOf 34 = 3 := by kernel_rfl
  have c1 : Tryz.prog.cellsOf 3 = 1 := by kernel_rfl
  have c2 : Tryz.prog.cellsOf 9 = 1 := by kernel_rfl
  rw [hc] at hl
  match cs, hl, xs, hlen with
  | [v0, v1, v2], _, [y0, y1, y2], _ =>
    have g0 := hf 0 _ rfl
    have g1 := hf 1 _ rfl
    have g2 := hf 2 _ rfl
    simp [c1, c2] at g0 g1 g2
    obtain ⟨k, e0, _, w0⟩ := DataW.trod_int Tryz.underlying3 g0
    obtain ⟨z, e1, _, w1⟩ := DataW.trod_int Tryz.underlying3 g1
    obtain ⟨s, e4, _, w4⟩ := DataW.trod_string Tryz.underlying9 g2
    simp only [List.cons.injEq, and_true] at e0 e1 e4
    subst e0 e1 e4
    exact ⟨⟨k, z, s⟩, rfl, trivial⟩
set_option maxRecDepth 100000 in
theorem open_lr {H : Type} {enc : TypeId × Value → H} {W : World} {base : Nat} {v : Value} {d : DataW H} {p : List MemPlace}
    (hv : Value.okWide Tryz.prog W .any base 26 v) (h : DataW.Trod enc Tryz.prog W 0 (fun _ => true) true 26 v d p) :
    ∃ (A : Option Addr) (c : Nat) (xs : List Lr), v = .slice A xs.length c ∧ RowL W A c xs := by
  obtain ⟨A, c, xs, e, _, _, _, hx⟩ := open_rows lrV (fun _ => True) 3 (by omega) (fun _ => rfl) ⟨0, 0, ⟨#[]⟩⟩ Tryz.underlying26 (by kernel_rfl) read_lr hv h
  exact ⟨A, c, xs, e, hx⟩
end Go.Proofs.YtepjehcmiofehaaGreat
