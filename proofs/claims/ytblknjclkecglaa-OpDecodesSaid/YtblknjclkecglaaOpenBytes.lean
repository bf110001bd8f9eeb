/- Arguments that are bytes, or numbers, in a slice, opened: their cells. -/
import Derived.Test.YtblknjclkecglaaOctetC
import Derived.ProofKit
import Derived.ChangeSlices
import Derived.OpenShut
import Derived.Deep.SlicePairs
namespace Go.Proofs.Ytblknjclkecglaa
open Go.RowKit Go.ChangeShapes Go.WideShapes Go.ChangeAt Go.Deep
set_option linter.unusedVariables false
set_option linter.unusedSimpArgs false

theorem ob_lt {w : World} {a : Addr} {v : Value} (h : w.cell? a = some v) : a.block < w.heap.size := by
  unfold World.cell? at h
  cases hb : w.heap[a.block]? with
  | none => rw [hb] at h; cases h
  | some o => exact (Array.getElem?_eq_some_iff.1 hb).1
theorem ob_plain {w : World} {b o : Nat} {s : Option _} {v : Value} (h : w.cell? ⟨b, o, s⟩ = some v) : s = none := by
  have := World.cell?_spot h
  simpa using this
theorem ob_add0 (a : Addr) : a.add 0 = a := by unfold Addr.add; simp

set_option maxRecDepth 100000 in
theorem open_u8s {H : Type} {enc : TypeId × Value → H} {W : World} {base : Nat} {v : Value} {d : DataW H} {p : List MemPlace}
    (hv : Value.okWide Try.prog W .any base 27 v) (h : DataW.Trod enc Try.prog W 0 (fun _ => true) true 27 v d p) :
    ∃ (A : Option Addr) (c : Nat) (xs : List Nat), v = .slice A xs.length c ∧ xs.length ≤ c ∧ c ≤ maxLen ∧ (∀ x ∈ xs, x < 256) ∧ Cells W W.heap.size A xs.length c 1 (flatU xs) := by
  obtain ⟨A, len, c, rfl⟩ := okWide_slice Try.underlying27 hv
  obtain ⟨fuel, hf⟩ := h
  have hC : Try.prog.cellsOf 5 = 1 := by kernel_rfl
  rcases open_ints (k := .u8) Try.underlying27 Try.underlying5 hC hf with ⟨hcs, _⟩ | ⟨a, l, cap, zs, hcs, _, hl, hm, hz, _, hcell, hwf⟩
  · simp [Value.cells] at hcs
    obtain ⟨rfl, rfl, rfl⟩ := hcs
    exact ⟨none, 0, [], rfl, Nat.le_refl _, by unfold maxLen; omega, by simp, ⟨rfl, fun _ => ⟨rfl, rfl⟩, fun j u hu => by simp [flatU] at hu⟩⟩
  · simp [Value.cells] at hcs
    obtain ⟨rfl, rfl, rfl⟩ := hcs
    have hz2 : zs.length = c := by rw [hz]; simp
    have hr : ∀ z ∈ zs, 0 ≤ z ∧ z < 256 := by
      intro z hz'
      have := hwf z hz'
      simp only [Lit.wf, Bool.and_eq_true, decide_eq_true_eq] at this
      have e1 : IntKind.u8.min = 0 := by decide
      have e2 : IntKind.u8.max = 255 := by decide
      rw [e1, e2] at this
      omega
    have hlen : ((zs.take len).map Int.toNat).length = len := by simp; omega
    have hx : ((zs.take len).map Int.toNat).length = len := hlen
    obtain ⟨b, o, s⟩ := a
    refine ⟨some ⟨b, o, s⟩, c, (zs.take len).map Int.toNat, by rw [hlen], by omega, hm, ?_, by simp [flatU], (fun e => by cases e), ?_⟩
    · intro x hx
      simp only [List.mem_map] at hx
      obtain ⟨z, hz3, rfl⟩ := hx
      have := hr z (List.mem_of_mem_take hz3)
      omega
    · intro j u hu
      have hj : j < len := by
        have := (List.getElem?_eq_some_iff.1 hu).1
        simp [flatU] at this; omega
      have e1 := hcell j (by omega)
      have hsp : s = none := by
        have e0 := hcell 0 (by omega)
        rw [ob_add0] at e0
        exact ob_plain e0
      subst hsp
      rw [add_none] at e1
      refine ⟨b, o, rfl, ob_lt e1, ?_⟩
      rw [e1]
      have hjz : j < zs.length := by omega
      simp only [flatU, List.map_map, List.getElem?_map, List.getElem?_take, if_pos hj, List.getElem?_eq_getElem hjz, Option.map_some, Option.some.injEq] at hu
      rw [← hu]
      have := hr zs[j] (List.getElem_mem _)
      simp only [Function.comp, List.getD, List.getElem?_eq_getElem hjz, Option.getD_some]
      congr 2
      omega

set_option maxRecDepth 100000 in
theorem open_i64s {H : Type} {enc : TypeId × Value → H} {W : World} {base : Nat} {v : Value} {d : DataW H} {p : List MemPlace}
    (hv : Value.okWide Try.prog W .any base 79 v) (h : DataW.Trod enc Try.prog W 0 (fun _ => true) true 79 v d p) :
    ∃ (A : Option Addr) (c : Nat) (l : List Int), v = .slice A l.length c ∧ l.length ≤ c ∧ c ≤ maxLen ∧ Ints W W.heap.size A l := by
  obtain ⟨A, len, c, rfl⟩ := okWide_slice Try.underlying79 hv
  obtain ⟨fuel, hf⟩ := h
  have hC : Try.prog.cellsOf 3 = 1 := by kernel_rfl
  rcases open_ints (k := .i64) Try.underlying79 Try.underlying3 hC hf with ⟨hcs, _⟩ | ⟨a, l, cap, zs, hcs, _, hl, hm, hz, _, hcell, hwf⟩
  · simp [Value.cells] at hcs
    obtain ⟨rfl, rfl, rfl⟩ := hcs
    exact ⟨none, 0, [], rfl, Nat.le_refl _, by unfold maxLen; omega, fun k h => by cases h⟩
  · simp [Value.cells] at hcs
    obtain ⟨rfl, rfl, rfl⟩ := hcs
    have hz2 : zs.length = c := by rw [hz]; simp
    have hlen : (zs.take len).length = len := by simp; omega
    obtain ⟨b, o, s⟩ := a
    refine ⟨some ⟨b, o, s⟩, c, zs.take len, by rw [hlen], by omega, hm, ?_⟩
    intro j hj
    have hj' : j < len := by omega
    have e1 := hcell j (by omega)
    have hsp : s = none := by
      have e0 := hcell 0 (by omega)
      rw [ob_add0] at e0
      exact ob_plain e0
    subst hsp
    rw [add_none] at e1
    refine ⟨b, o, rfl, ob_lt e1, ?_⟩
    rw [e1]
    simp [List.getD, List.getElem?_eq_getElem (show j < zs.length by omega)]

end Go.Proofs.Ytblknjclkecglaa
