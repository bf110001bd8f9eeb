/- An argument that is a slice of integers, opened. -/
import Derived.Test.YtbohpjinkdffhaaOpenRows
namespace Go.Proofs.Ytbohpjinkdffhaa
open Go.RowKit Go.ChangeShapes Go.WideShapes Go.ChangeAt Go.Deep
set_option linter.unusedVariables false
set_option linter.unusedSimpArgs false

theorem read_int {H : Type} {enc : TypeId × Value → H} {W : World} : ∀ fuel cs x, DataW.trod enc Try.prog W 0 (fun _ => true) true fuel 3 cs = some x → ∃ r : Int, cs = [.int .i64 r] ∧ (Lit.int .i64 r).wf = true := by
  intro fuel cs x h
  obtain ⟨k, e0, _, w0⟩ := DataW.trod_int Try.underlying3 h
  exact ⟨k, e0, by assumption⟩
set_option maxRecDepth 100000 in
theorem open_intsR {H : Type} {enc : TypeId × Value → H} {W : World} {base : Nat} {v : Value} {d : DataW H} {p : List MemPlace}
    (hv : Value.okWide Try.prog W .any base 22 v) (h : DataW.Trod enc Try.prog W 0 (fun _ => true) true 22 v d p) :
    ∃ (A : Option Addr) (c : Nat) (xs : List Int), v = .slice A xs.length c ∧ xs.length ≤ c ∧ c ≤ maxLen ∧ (∀ r ∈ xs, (Lit.int .i64 r).wf = true) ∧ Cells W W.heap.size A xs.length c 1 (xs.flatMap fun r => [.int .i64 r]) :=
  open_rows (fun r : Int => [.int .i64 r]) (fun r => (Lit.int .i64 r).wf = true) 1 (by omega) (fun _ => rfl) 0 Try.underlying22 (by kernel_rfl) read_int hv h
theorem int_at {w : World} {B c : Nat} {A : Option Addr} {xs : List Int} (h : Cells w B A xs.length c 1 (xs.flatMap fun r => [.int .i64 r])) {i : Nat} (hi : i < xs.length) : ∃ b o, A = some ⟨b, o, none⟩ ∧ b < B ∧ w.cell? ⟨b, o + i, none⟩ = some (.int .i64 xs[i]) := by
  have g := flat_get (fun r : Int => [Value.int .i64 r]) 1 (fun _ => rfl) xs i 0 (by omega)
  rw [List.getElem?_eq_getElem hi] at g
  obtain ⟨b, o, e0, hb, c0⟩ := h.2.2 (i * 1 + 0) (.int .i64 xs[i]) (by rw [g]; rfl)
  exact ⟨b, o, e0, hb, by simpa using c0⟩
end Go.Proofs.Ytbohpjinkdffhaa
