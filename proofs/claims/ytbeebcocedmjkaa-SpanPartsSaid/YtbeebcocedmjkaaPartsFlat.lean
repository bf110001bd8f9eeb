/- Spans as cells, for append. -/
import Derived.Test.YtbeebcocedmjkaaSpanA
import Derived.Test.YtbeebcocedmjkaaAppend
namespace Go.Proofs.Ytbeebcocedmjkaa
open Go.RowKit
set_option linter.unusedVariables false
set_option linter.unusedSimpArgs false

def flatS : List (ByteArray × ByteArray) → List Value
  | [] => []
  | p :: r => .string p.1 :: .string p.2 :: flatS r
theorem flatS_length (xs : List (ByteArray × ByteArray)) : (flatS xs).length = xs.length * 2 := by
  induction xs with
  | nil => rfl
  | cons p r ih => simp only [flatS, List.length_cons, ih]; omega
theorem flatS_app (xs ys : List (ByteArray × ByteArray)) : flatS (xs ++ ys) = flatS xs ++ flatS ys := by
  induction xs with
  | nil => rfl
  | cons p r ih => simp only [List.cons_append, flatS, ih]
theorem flatS_get : ∀ (xs : List (ByteArray × ByteArray)) (k : Nat) (h : k < xs.length), (flatS xs)[k * 2]? = some (.string xs[k].1) ∧ (flatS xs)[k * 2 + 1]? = some (.string xs[k].2)
  | p :: r, 0, _ => ⟨rfl, rfl⟩
  | p :: r, k + 1, h => by
    have := flatS_get r k (by simpa using h)
    simp only [flatS, List.getElem_cons_succ]
    rw [show (k + 1) * 2 = k * 2 + 1 + 1 from by omega, show k * 2 + 1 + 1 + 1 = (k * 2 + 1) + 1 + 1 from by omega]
    simpa using this
theorem flatS_one (xs : List (ByteArray × ByteArray)) : ∀ u ∈ flatS xs, u.oneCell' = true := by
  induction xs with
  | nil => simp [flatS]
  | cons p r ih => intro u hu; simp only [flatS, List.mem_cons] at hu; rcases hu with rfl | rfl | hu
                   · rfl
                   · rfl
                   · exact ih u hu
theorem cells_of_spans {w : World} {B b o c : Nat} {xs : List (ByteArray × ByteArray)} (h : Spans w B (some ⟨b, o, none⟩) xs) : Cells w B (some ⟨b, o, none⟩) xs.length c 2 (flatS xs) := by
  refine ⟨flatS_length xs, (fun e => by cases e), ?_⟩
  intro j u hu
  have hj : j < (flatS xs).length := (List.getElem?_eq_some_iff.1 hu).1
  rw [flatS_length] at hj
  obtain ⟨b', o', e, hlt, h1, h2⟩ := h (j / 2) (by omega)
  injection e with e; injection e with e1 e2 e3; subst e1 e2
  obtain ⟨e1, e2⟩ := flatS_get xs (j / 2) (by omega)
  refine ⟨b, o, rfl, hlt, ?_⟩
  rcases Nat.mod_two_eq_zero_or_one j with hm | hm
  · have hj2 : j = j / 2 * 2 := by omega
    rw [hj2, h1, ← hu]
    conv => rhs; rw [hj2]
    exact e1.symm
  · have hj2 : j = j / 2 * 2 + 1 := by omega
    rw [hj2, ← Nat.add_assoc, h2, ← hu]
    conv => rhs; rw [hj2]
    exact e2.symm
theorem spans_take {w : World} {B b o : Nat} {xs : List (ByteArray × ByteArray)} (m : Nat) (h : Spans w B (some ⟨b, o, none⟩) xs) : Spans w B (some ⟨b, o, none⟩) (xs.take m) := by
  intro k hk
  rw [List.length_take] at hk
  have := h k (by omega)
  simpa using this
theorem spans_drop {w : World} {B b o : Nat} {xs : List (ByteArray × ByteArray)} (m : Nat) (h : Spans w B (some ⟨b, o, none⟩) xs) : Spans w B (some ⟨b, o + m * 2, none⟩) (xs.drop m) := by
  intro k hk
  rw [List.length_drop] at hk
  obtain ⟨b', o', e, hlt, h1, h2⟩ := h (m + k) (by omega)
  injection e with e; injection e with e1 e2 e3; subst e1 e2
  refine ⟨b, o + m * 2, rfl, hlt, ?_, ?_⟩
  · rw [show o + m * 2 + k * 2 = o + (m + k) * 2 from by omega]; simpa using h1
  · rw [show o + m * 2 + k * 2 = o + (m + k) * 2 from by omega]; simpa using h2
theorem spans_below {w w1 : World} {B B' : Nat} {A : Option Addr} {xs : List (ByteArray × ByteArray)} (h : Spans w B A xs) (hb : Below B w w1) (hB : B ≤ B') : Spans w1 B' A xs := by
  intro k hk
  obtain ⟨b, o, e, hlt, h1, h2⟩ := h k hk
  exact ⟨b, o, e, by omega, bkeep hb h1 hlt, bkeep hb h2 hlt⟩
theorem spans_own {w : World} {base g cap e : Nat} {xs : List (ByteArray × ByteArray)} (h : w.ownsRow base e 2 (.slice (some ⟨g, 0, none⟩) xs.length cap) xs.length (flatS xs)) (hg : g < w.heap.size) : Spans w w.heap.size (some ⟨g, 0, none⟩) xs := by
  intro k hk
  obtain ⟨e1, e2⟩ := flatS_get xs k hk
  refine ⟨g, 0, rfl, hg, ?_, ?_⟩
  · rw [Nat.zero_add, h.cellAt (k * 2) (by omega)]; exact e1
  · rw [Nat.zero_add, h.cellAt (k * 2 + 1) (by omega)]; exact e2

theorem Try.infoSpan2 : (Try.prog.info? 45).map (fun i => (i.zero, i.size, i.bytes)) = some (some (.agg #[.string ⟨#[]⟩, .string ⟨#[]⟩]), 2, 32) := by kernel_rfl

end Go.Proofs.Ytbeebcocedmjkaa
