/- An argument that is a slice of structs of whatever cells, opened: its elements' cells, one behind the other. -/
import Derived.Test.YtdlbiobjnohfbaaProg
import Derived.WalkKit
import Derived.WalkSpells
import Derived.WalkLawsBesides
import Derived.Deep.QuietTactic
import Derived.BigQuiet
import Derived.RegionTactic
import Derived.BigRegion
import Derived.Outline
import Derived.LoopTactic
import Derived.Lib.Hide
import Derived.Deep.RegionHeld3
import Derived.Laws.AppendOwnNone
import Derived.Deep.AppendLies
import Derived.ProofKit
import Derived.OpenShut
import Derived.ShutString
import Derived.Deep.SlicePairs
import Derived.Test.YtdlbiobjnohfbaaVi2
import Derived.Test.YtdlbiobjnohfbaaVi3
namespace Go.Proofs.Ytdlbiobjnohfbaa
open Go.RowKit Go.ChangeShapes Go.WideShapes Go.ChangeAt Go.Deep
set_option linter.unusedVariables false
set_option linter.unusedSimpArgs false
theorem cell_ltR {w : World} {a : Addr} {v : Value} (h : w.cell? a = some v) : a.block < w.heap.size := by
  unfold World.cell? at h
  cases hb : w.heap[a.block]? with
  | none => rw [hb] at h; cases h
  | some o => exact (Array.getElem?_eq_some_iff.1 hb).1
theorem cell_plainR {w : World} {b o : Nat} {s : Option _} {v : Value} (h : w.cell? ⟨b, o, s⟩ = some v) : s = none := by
  have := World.cell?_spot h
  simpa using this
theorem flat_get {β : Type} (f : β → List Value) (size : Nat) (hs : ∀ r, (f r).length = size) : ∀ (xs : List β) (i k : Nat), k < size → (xs.flatMap f)[i * size + k]? = (xs[i]?).bind (fun r => (f r)[k]?)
  | [], i, k, h => by simp
  | x :: r, 0, k, h => by
    simp only [List.flatMap_cons, Nat.zero_mul, Nat.zero_add, List.getElem?_cons_zero, Option.bind_some]
    rw [List.getElem?_append_left (by rw [hs]; exact h)]
  | x :: r, i + 1, k, h => by
    simp only [List.flatMap_cons, List.getElem?_cons_succ]
    rw [List.getElem?_append_right (by rw [hs, Nat.add_mul]; omega), hs, show (i + 1) * size + k - size = i * size + k by rw [Nat.add_mul]; omega]
    exact flat_get f size hs r i k h
theorem flat_lenR {β : Type} (f : β → List Value) (size : Nat) (hs : ∀ r, (f r).length = size) : ∀ (xs : List β), (xs.flatMap f).length = xs.length * size
  | [] => by simp
  | x :: r => by simp only [List.flatMap_cons, List.length_append, hs, flat_lenR f size hs r, List.length_cons, Nat.add_mul]; omega
theorem open_rows {β : Type} {H : Type} {enc : TypeId × Value → H} {P : Program} {W : World} {base : Nat} {t e : TypeId} {v : Value} {d : DataW H} {p : List MemPlace} (f : β → List Value) (Q : β → Prop) (size : Nat) (hpos : 0 < size) (hs : ∀ r, (f r).length = size) (r0 : β)
    (ht : P.underlying t = some (.slice e)) (ce : P.cellsOf e = size)
    (hread : ∀ fuel cs x, DataW.trod enc P W 0 (fun _ => true) true fuel e cs = some x → ∃ r : β, cs = f r ∧ Q r)
    (hv : Value.okWide P W .any base t v) (h : DataW.Trod enc P W 0 (fun _ => true) true t v d p) :
    ∃ (A : Option Addr) (c : Nat) (xs : List β), v = .slice A xs.length c ∧ xs.length ≤ c ∧ c ≤ maxLen ∧ (∀ r ∈ xs, Q r) ∧ Cells W W.heap.size A xs.length c size (xs.flatMap f) := by
  obtain ⟨A, len, c, rfl⟩ := okWide_slice ht hv
  obtain ⟨fuel, hf⟩ := h
  rcases open_slice ht hf with ⟨hcs, _⟩ | ⟨a, l, cap, m, n, D, Pl, hcs, hb, hl, hm, hmm, _, hall⟩
  · simp [Value.cells] at hcs
    obtain ⟨rfl, rfl, rfl⟩ := hcs
    exact ⟨none, 0, [], rfl, Nat.le_refl _, by unfold maxLen; omega, by simp, by simp, fun _ => ⟨rfl, rfl⟩, fun j u hu => by simp at hu⟩
  · simp [Value.cells] at hcs
    obtain ⟨rfl, rfl, rfl⟩ := hcs
    have hlm : len ≤ m := by rw [hmm]; simp; exact hl
    have hc : ∀ i, i < len → ∃ r : β, Q r ∧ ∀ k, k < size → W.cell? (a.add (i * size + k)) = (f r)[k]? := by
      intro i hi
      obtain ⟨cs', h1, h2⟩ := hall i (by omega)
      rw [ce] at h1
      obtain ⟨_, hlen, hcell⟩ := World.cells?_some h1
      obtain ⟨r, rfl, hq⟩ := hread _ _ _ h2
      refine ⟨r, hq, fun k hk => ?_⟩
      have := hcell k (by omega)
      rw [add_add] at this
      exact this
    let g : Nat → β := fun i => if h : i < len then (hc i h).choose else r0
    have hg : ∀ i, i < len → Q (g i) ∧ ∀ k, k < size → W.cell? (a.add (i * size + k)) = (f (g i))[k]? := fun i hi => by
      simp only [g, hi, dite_true]
      exact (hc i hi).choose_spec
    obtain ⟨b, o, s⟩ := a
    refine ⟨some ⟨b, o, s⟩, c, (List.range len).map g, by simp, by simpa using hl, hm, ?_, ?_, (fun e => by cases e), ?_⟩
    · intro r hr
      obtain ⟨i, hi, rfl⟩ := List.mem_map.1 hr
      exact (hg i (List.mem_range.1 hi)).1
    · exact flat_lenR f size hs _
    · intro j u hu
      have hj : j = j / size * size + j % size := by rw [Nat.mul_comm]; exact (Nat.div_add_mod j size).symm
      have hk := Nat.mod_lt j hpos
      rw [hj, flat_get f size hs _ _ _ hk] at hu
      have hi : j / size < len := by
        by_cases hi : j / size < len
        · exact hi
        · rw [List.getElem?_eq_none (by simpa using hi)] at hu; cases hu
      rw [List.getElem?_map, List.getElem?_range hi] at hu
      simp only [Option.map_some, Option.bind_some] at hu
      have hcl := (hg _ hi).2 _ hk
      rw [hu, ← hj] at hcl
      have hsp : s = none := by
        have h0 := (hg 0 (Nat.lt_of_le_of_lt (Nat.zero_le _) hi)).2 0 hpos
        rw [List.getElem?_eq_getElem (by rw [hs]; exact hpos)] at h0
        rw [show 0 * size + 0 = 0 by omega] at h0
        unfold Addr.add at h0
        rw [if_pos rfl] at h0
        exact cell_plainR h0
      subst hsp
      rw [add_none] at hcl
      exact ⟨b, o, rfl, cell_ltR hcl, hcl⟩
end Go.Proofs.Ytdlbiobjnohfbaa
