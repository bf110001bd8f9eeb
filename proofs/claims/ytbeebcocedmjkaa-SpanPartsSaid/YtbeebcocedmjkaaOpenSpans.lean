/- An argument that is a slice of spans, opened: its elements' cells. -/
import Derived.Test.YtbeebcocedmjkaaSpanA
import Derived.ProofKit
import Derived.Deep.SlicePairs
namespace Go.Proofs.Ytbeebcocedmjkaa
open Go.RowKit Go.ChangeShapes Go.WideShapes Go.ChangeAt Go.Deep
set_option linter.unusedVariables false
set_option linter.unusedSimpArgs false

theorem cell_lt {w : World} {a : Addr} {v : Value} (h : w.cell? a = some v) : a.block < w.heap.size := by
  unfold World.cell? at h
  cases hb : w.heap[a.block]? with
  | none => rw [hb] at h; cases h
  | some o => exact (Array.getElem?_eq_some_iff.1 hb).1
theorem cell_plain {w : World} {b o : Nat} {s : Option _} {v : Value} (h : w.cell? ⟨b, o, s⟩ = some v) : s = none := by
  have := World.cell?_spot h
  simpa using this
theorem addr_add_eq (b o j : Nat) : (⟨b, o, none⟩ : Addr).add j = ⟨b, o + j, none⟩ := by
  unfold Addr.add; split <;> simp_all
theorem addr_add_zero (a : Addr) : a.add 0 = a := by unfold Addr.add; simp

theorem open_spans {H : Type} {enc : TypeId × Value → H} {W : World} {base : Nat} {v : Value} {d : DataW H} {p : List MemPlace}
    (hv : Value.okWide Try.prog W .any base 54 v) (h : DataW.Trod enc Try.prog W 0 (fun _ => true) true 54 v d p) :
    ∃ (A : Option Addr) (c : Nat) (xs : List (ByteArray × ByteArray)), v = .slice A xs.length c ∧ (A = none → c = 0) ∧ xs.length ≤ c ∧ c ≤ maxLen ∧ Spans W W.heap.size A xs := by
  obtain ⟨A, len, c, rfl⟩ := okWide_slice Try.underlying54 hv
  obtain ⟨fuel, hf⟩ := h
  rcases open_slice_pairs Try.underlying54 Try.underlying45 (by kernel_rfl) rfl rfl (by kernel_rfl) (by kernel_rfl) hf with ⟨hcs, _⟩ | ⟨a, l, cap, m, n, V0, V1, D0, D1, P0, P1, hcs, _, hl, hm, hmm, _, hall⟩
  · simp [Value.cells] at hcs
    obtain ⟨rfl, rfl, rfl⟩ := hcs
    exact ⟨none, 0, [], rfl, fun _ => rfl, Nat.le_refl _, by unfold maxLen; omega, fun k h => by cases h⟩
  · simp [Value.cells] at hcs
    obtain ⟨rfl, rfl, rfl⟩ := hcs
    have hlm : len ≤ m := by rw [hmm]; simp; exact hl
    have hs : ∀ i, i < len → ∃ s t : ByteArray, W.cell? (a.add (i * 2)) = some (.string s) ∧ W.cell? (a.add (i * 2 + 1)) = some (.string t) := by
      intro i hi
      obtain ⟨h0, h1, h2, h3⟩ := hall i (by omega)
      obtain ⟨s, e0, _, _⟩ := DataW.trod_string Try.underlying9 h2
      obtain ⟨t, e1, _, _⟩ := DataW.trod_string Try.underlying9 h3
      simp only [List.cons.injEq, and_true] at e0 e1
      exact ⟨s, t, by rw [h0, e0], by rw [h1, e1]⟩
    obtain ⟨b, o, s⟩ := a
    let f : Nat → ByteArray × ByteArray := fun i => if h : i < len then ((hs i h).choose, (hs i h).choose_spec.choose) else (⟨#[]⟩, ⟨#[]⟩)
    refine ⟨some ⟨b, o, s⟩, c, (List.range len).map f, by simp, (fun e => by cases e), by simpa using hl, hm, ?_⟩
    intro k hk
    have hk' : k < len := by simpa using hk
    have e1 := (hs k hk').choose_spec.choose_spec.1
    have e2 := (hs k hk').choose_spec.choose_spec.2
    have hsp : s = none := by
      obtain ⟨s0, t0, e0, _⟩ := hs 0 (by omega)
      rw [Nat.zero_mul, addr_add_zero] at e0
      exact cell_plain e0
    subst hsp
    refine ⟨b, o, rfl, by have h := cell_lt e1; rw [addr_add_eq] at h; exact h, ?_, ?_⟩
    · rw [← addr_add_eq]; simp only [List.getElem_map, List.getElem_range, f, hk', dite_true]; exact e1
    · rw [Nat.add_assoc, ← addr_add_eq]; simp only [List.getElem_map, List.getElem_range, f, hk', dite_true]; exact e2

end Go.Proofs.Ytbeebcocedmjkaa
