/- An argument that is a slice of texts, opened: its elements' cells. -/
import Derived.Test.YtbeebcocedmjkaaSpanPartsW
import Derived.Test.YtbeebcocedmjkaaOpenSpans
import Derived.ProofKit
import Derived.SliceStrings
namespace Go.Proofs.Ytbeebcocedmjkaa
open Go.RowKit Go.ChangeShapes Go.WideShapes Go.ChangeAt Go.Deep
set_option linter.unusedVariables false
set_option linter.unusedSimpArgs false

theorem open_texts {H : Type} {enc : TypeId × Value → H} {W : World} {base : Nat} {v : Value} {d : DataW H} {p : List MemPlace}
    (hv : Value.okWide Try.prog W .any base 57 v) (h : DataW.Trod enc Try.prog W 0 (fun _ => true) true 57 v d p) :
    ∃ (A : Option Addr) (c : Nat) (ks : List ByteArray), v = .slice A ks.length c ∧ ks.length ≤ c ∧ c ≤ maxLen ∧ Texts W W.heap.size A ks := by
  obtain ⟨A, len, c, rfl⟩ := okWide_slice Try.underlying57 hv
  obtain ⟨fuel, hf⟩ := h
  rcases open_strings Try.underlying57 Try.underlying9 (by kernel_rfl) hf with ⟨hcs, _⟩ | ⟨a, l, cap, ss, hcs, _, hl, hm, hz, _, hcell, _⟩
  · simp [Value.cells] at hcs
    obtain ⟨rfl, rfl, rfl⟩ := hcs
    exact ⟨none, 0, [], rfl, Nat.le_refl _, by unfold maxLen; omega, fun k h => by cases h⟩
  · simp [Value.cells] at hcs
    obtain ⟨rfl, rfl, rfl⟩ := hcs
    have hz2 : ss.length = c := by rw [hz]; simp
    obtain ⟨b, o, s⟩ := a
    have hlen : (ss.take len).length = len := by simp; omega
    refine ⟨some ⟨b, o, s⟩, c, ss.take len, by rw [hlen], by omega, hm, ?_⟩
    intro k hk
    have hk' : k < len := by omega
    have e1 := hcell k (by omega)
    have hsp : s = none := by
      have e0 := hcell 0 (by omega)
      rw [addr_add_zero] at e0
      exact cell_plain e0
    subst hsp
    rw [addr_add_eq] at e1
    refine ⟨b, o, rfl, by have h := cell_lt e1; exact h, ?_⟩
    rw [e1]
    simp [List.getD, List.getElem?_eq_getElem (show k < ss.length by omega)]

end Go.Proofs.Ytbeebcocedmjkaa
