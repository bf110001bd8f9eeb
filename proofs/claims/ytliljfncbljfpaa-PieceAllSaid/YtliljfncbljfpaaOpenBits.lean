/- An argument that is a slice of pieces (a number, bytes), opened. -/
import Derived.Test.YtliljfncbljfpaaOpenBytes
namespace Go.Proofs.Ytliljfncbljfpaa
open Go.RowKit Go.ChangeShapes Go.WideShapes Go.ChangeAt Go.Deep
set_option linter.unusedVariables false
set_option linter.unusedSimpArgs false

set_option maxRecDepth 100000 in
theorem u8s_of_trod {H : Type} {enc : TypeId × Value → H} {W : World} {fuel : Nat} {cs : List Value} {x : DataW H × List MemPlace}
    (hf : DataW.trod enc Try.prog W 0 (fun _ => true) true fuel 27 cs = some x) :
    ∃ (A : Option Addr) (c : Nat) (xs : List Nat), cs = [.slice A xs.length c] ∧ xs.length ≤ c ∧ c ≤ maxLen ∧ (∀ x ∈ xs, x < 256) ∧ Cells W W.heap.size A xs.length c 1 (flatU xs) := by
  have hC : Try.prog.cellsOf 5 = 1 := by kernel_rfl
  rcases open_ints (k := .u8) Try.underlying27 Try.underlying5 hC hf with ⟨hcs, _⟩ | ⟨a, len, c, zs, hcs, _, hl, hm, hz, _, hcell, hwf⟩
  · exact ⟨none, 0, [], hcs, Nat.le_refl _, by unfold maxLen; omega, by simp, ⟨rfl, fun _ => ⟨rfl, rfl⟩, fun j u hu => by simp [flatU] at hu⟩⟩
  · have hz2 : zs.length = c := by rw [hz]; simp
    have hr : ∀ z ∈ zs, 0 ≤ z ∧ z < 256 := by
      intro z hz'
      have := hwf z hz'
      simp only [Lit.wf, Bool.and_eq_true, decide_eq_true_eq] at this
      have e1 : IntKind.u8.min = 0 := by decide
      have e2 : IntKind.u8.max = 255 := by decide
      rw [e1, e2] at this
      omega
    have hlen : ((zs.take len).map Int.toNat).length = len := by simp; omega
    obtain ⟨b, o, s⟩ := a
    refine ⟨some ⟨b, o, s⟩, c, (zs.take len).map Int.toNat, by rw [hlen]; exact hcs, by omega, hm, ?_, by simp [flatU], (fun e => by cases e), ?_⟩
    · intro x hx
      simp only [List.mem_map] at hx
      obtain ⟨z, hz3, rfl⟩ := hx
      have := hr z (List.mem_of_mem_take hz3)
      omega
    · intro j u hu
      have hj : j < len := by
        have := (List.getElem?_eq_some_iff.1 hu).1
        simp [flatU] at this; omega
      have e1 := hcell j (by omega)
      have hsp : s = none := by
        have e0 := hcell 0 (by omega)
        rw [ob_add0] at e0
        exact ob_plain e0
      subst hsp
      rw [add_none] at e1
      refine ⟨b, o, rfl, ob_lt e1, ?_⟩
      rw [e1]
      have hjz : j < zs.length := by omega
      simp only [flatU, List.map_map, List.getElem?_map, List.getElem?_take, if_pos hj, List.getElem?_eq_getElem hjz, Option.map_some, Option.some.injEq] at hu
      rw [← hu]
      have := hr zs[j] (List.getElem_mem _)
      simp only [Function.comp, List.getD, List.getElem?_eq_getElem hjz, Option.getD_some]
      congr 2
      omega

/-- a slice of pieces that reads as a list -/
def Bits (w : World) (B : Nat) (A : Option Addr) (l : List (Int × List Nat)) : Prop :=
  ∀ k (h : k < l.length), ∃ b o A1 c1, A = some ⟨b, o, none⟩ ∧ b < B ∧ w.cell? ⟨b, o + k * 2, none⟩ = some (.int .i64 l[k].1) ∧ w.cell? ⟨b, o + k * 2 + 1, none⟩ = some (.slice A1 l[k].2.length c1) ∧ l[k].2.length ≤ c1 ∧ c1 ≤ maxLen ∧ Cells w B A1 l[k].2.length c1 1 (flatU l[k].2)

set_option maxRecDepth 100000 in
theorem open_bits {H : Type} {enc : TypeId × Value → H} {W : World} {base : Nat} {v : Value} {d : DataW H} {p : List MemPlace}
    (hv : Value.okWide Try.prog W .any base 67 v) (h : DataW.Trod enc Try.prog W 0 (fun _ => true) true 67 v d p) :
    ∃ (A : Option Addr) (c : Nat) (l : List (Int × List Nat)), v = .slice A l.length c ∧ l.length ≤ c ∧ c ≤ maxLen ∧ Bits W W.heap.size A l := by
  obtain ⟨A, len, c, rfl⟩ := okWide_slice Try.underlying67 hv
  obtain ⟨fuel, hf⟩ := h
  rcases open_slice_pairs Try.underlying67 Try.underlying69 (by kernel_rfl) rfl rfl (by kernel_rfl) (by kernel_rfl) hf with ⟨hcs, _⟩ | ⟨a, l, cap, m, n, V0, V1, D0, D1, P0, P1, hcs, _, hl, hm, hmm, _, hall⟩
  · simp [Value.cells] at hcs
    obtain ⟨rfl, rfl, rfl⟩ := hcs
    exact ⟨none, 0, [], rfl, Nat.le_refl _, by unfold maxLen; omega, fun k h => by cases h⟩
  · simp [Value.cells] at hcs
    obtain ⟨rfl, rfl, rfl⟩ := hcs
    have hlm : len ≤ m := by rw [hmm]; simp; exact hl
    have hs : ∀ i, i < len → ∃ y : Int × List Nat, W.cell? (a.add (i * 2)) = some (.int .i64 y.1) ∧ ∃ A1 c1, W.cell? (a.add (i * 2 + 1)) = some (.slice A1 y.2.length c1) ∧ y.2.length ≤ c1 ∧ c1 ≤ maxLen ∧ Cells W W.heap.size A1 y.2.length c1 1 (flatU y.2) := by
      intro i hi
      obtain ⟨h0, h1, h2, h3⟩ := hall i (by omega)
      obtain ⟨z, e0, _, _⟩ := DataW.trod_int Try.underlying3 h2
      obtain ⟨A1, c1, xs, e1, g1, g2, _, g4⟩ := u8s_of_trod h3
      simp only [List.cons.injEq, and_true] at e0 e1
      exact ⟨(z, xs), by rw [h0, e0], A1, c1, by rw [h1, e1], g1, g2, g4⟩
    obtain ⟨b, o, s⟩ := a
    let f : Nat → Int × List Nat := fun i => if h : i < len then (hs i h).choose else (0, [])
    refine ⟨some ⟨b, o, s⟩, c, (List.range len).map f, by simp, by simpa using hl, hm, ?_⟩
    intro k hk
    have hk' : k < len := by simpa using hk
    obtain ⟨e1, A1, c1, e2, g1, g2, g3⟩ := (hs k hk').choose_spec
    have hsp : s = none := by
      obtain ⟨y0, e0, _⟩ := hs 0 (by omega)
      rw [Nat.zero_mul, ob_add0] at e0
      exact ob_plain e0
    subst hsp
    have ef : ((List.range len).map f)[k] = (hs k hk').choose := by simp only [List.getElem_map, List.getElem_range, f, hk', dite_true]
    rw [ef]
    refine ⟨b, o, A1, c1, rfl, by have h := ob_lt e1; rw [add_none] at h; exact h, ?_, ?_, g1, g2, g3⟩
    · rw [← add_none]; exact e1
    · rw [Nat.add_assoc, ← add_none]; exact e2

end Go.Proofs.Ytliljfncbljfpaa
