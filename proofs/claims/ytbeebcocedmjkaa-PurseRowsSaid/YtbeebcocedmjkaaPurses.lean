/- Slices of purses: their cells, as arguments and as rows of the call's own. -/
import Derived.Test.YtbeebcocedmjkaaPurseAdd
import Derived.Test.YtbeebcocedmjkaaAppend
import Derived.Test.YtbeebcocedmjkaaOpenItems
import Derived.Deep.Slices
namespace Go.Proofs.Ytbeebcocedmjkaa
open Go.RowKit Go.ChangeShapes Go.WideShapes Go.ChangeAt Go.Deep
set_option linter.unusedVariables false
set_option linter.unusedSimpArgs false

def flatQ : List Q → List Value
  | [] => []
  | p :: r => .int .i64 p.1 :: .int .i64 p.2.1 :: .int .i64 p.2.2.1 :: .int .i64 p.2.2.2 :: flatQ r
theorem flatQ_length (xs : List Q) : (flatQ xs).length = xs.length * 4 := by
  induction xs with
  | nil => rfl
  | cons p r ih => simp only [flatQ, List.length_cons, ih]; omega
theorem flatQ_app (xs ys : List Q) : flatQ (xs ++ ys) = flatQ xs ++ flatQ ys := by
  induction xs with
  | nil => rfl
  | cons p r ih => simp only [List.cons_append, flatQ, ih]
theorem flatQ_get : ∀ (xs : List Q) (k : Nat) (h : k < xs.length), (flatQ xs)[k * 4]? = some (.int .i64 xs[k].1) ∧ (flatQ xs)[k * 4 + 1]? = some (.int .i64 xs[k].2.1) ∧ (flatQ xs)[k * 4 + 2]? = some (.int .i64 xs[k].2.2.1) ∧ (flatQ xs)[k * 4 + 3]? = some (.int .i64 xs[k].2.2.2)
  | p :: r, 0, _ => ⟨rfl, rfl, rfl, rfl⟩
  | p :: r, k + 1, h => by
    have := flatQ_get r k (by simpa using h)
    simp only [flatQ, List.getElem_cons_succ]
    rw [show (k + 1) * 4 = k * 4 + 1 + 1 + 1 + 1 from by omega, show k * 4 + 1 + 1 + 1 + 1 + 1 = (k * 4 + 1) + 1 + 1 + 1 + 1 from by omega, show k * 4 + 1 + 1 + 1 + 1 + 2 = (k * 4 + 2) + 1 + 1 + 1 + 1 from by omega, show k * 4 + 1 + 1 + 1 + 1 + 3 = (k * 4 + 3) + 1 + 1 + 1 + 1 from by omega]
    simpa using this
theorem flatQ_one (xs : List Q) : ∀ u ∈ flatQ xs, u.oneCell' = true := by
  induction xs with
  | nil => simp [flatQ]
  | cons p r ih =>
    intro u hu
    simp only [flatQ, List.mem_cons] at hu
    rcases hu with rfl | rfl | rfl | rfl | hu
    · rfl
    · rfl
    · rfl
    · rfl
    · exact ih u hu
theorem purses_of {w : World} {B : Nat} {A : Option Addr} {m c : Nat} {xs : List Q} (h : Cells w B A m c 4 (flatQ xs)) : Purses w B A xs := by
  intro k hk
  obtain ⟨e0, e1, e2, e3⟩ := flatQ_get xs k hk
  obtain ⟨b, o, hA, hb, h0⟩ := h.2.2 _ _ e0
  obtain ⟨b1, o1, hA1, _, h1⟩ := h.2.2 _ _ e1
  obtain ⟨b2, o2, hA2, _, h2⟩ := h.2.2 _ _ e2
  obtain ⟨b3, o3, hA3, _, h3⟩ := h.2.2 _ _ e3
  rw [hA] at hA1 hA2 hA3
  simp only [Option.some.injEq, Addr.mk.injEq] at hA1 hA2 hA3
  obtain ⟨rfl, rfl, _⟩ := hA1
  obtain ⟨rfl, rfl, _⟩ := hA2
  obtain ⟨rfl, rfl, _⟩ := hA3
  exact ⟨b, o, hA, hb, h0, by rw [Nat.add_assoc]; exact h1, by rw [Nat.add_assoc]; exact h2, by rw [Nat.add_assoc]; exact h3⟩
theorem owns_cells {w : World} {base e size : Nat} {v : Value} {n : Nat} {xs : List Value} (h : w.ownsRow base e size v n xs) : ∃ A cap, v = .slice A n cap ∧ n ≤ cap ∧ cap ≤ maxLen ∧ Cells w w.heap.size A n cap size xs := by
  rcases h.2 with ⟨hv, h0⟩ | ⟨g, cap, cur, hv, hg, hh, hc, hm, _⟩
  · subst h0
    have hn : xs = [] := List.eq_nil_of_length_eq_zero (by simpa using h.1)
    subst hn
    exact ⟨_, _, hv, Nat.le_refl _, by unfold maxLen; omega, h.1, fun _ => ⟨rfl, rfl⟩, fun j u hu => by simp at hu⟩
  · subst hv
    have hlt : g < w.heap.size := (Array.getElem?_eq_some_iff.1 hh).1
    refine ⟨_, _, rfl, hc, hm, h.1, (fun e => by cases e), fun j u hu => ⟨g, 0, rfl, hlt, ?_⟩⟩
    have := h.cells (g := g) rfl j u hu
    rw [add_none] at this
    exact this

theorem cell_lt {w : World} {a : Addr} {v : Value} (h : w.cell? a = some v) : a.block < w.heap.size := by
  unfold World.cell? at h
  cases hb : w.heap[a.block]? with
  | none => rw [hb] at h; cases h
  | some o => exact (Array.getElem?_eq_some_iff.1 hb).1
theorem cell_plain {w : World} {b o : Nat} {s : Option _} {v : Value} (h : w.cell? ⟨b, o, s⟩ = some v) : s = none := by
  have := World.cell?_spot h
  simpa using this
theorem add_spot_none (b o j : Nat) (s : Option Nat) (h : j ≠ 0) : (⟨b, o, s⟩ : Addr).add j = ⟨b, o + j, none⟩ := by
  unfold Addr.add; rw [if_neg (by simpa using h)]

theorem open_purses {H : Type} {enc : TypeId × Value → H} {W : World} {base : Nat} {v : Value} {d : DataW H} {p : List MemPlace}
    (hv : Value.okWide Try.prog W .any base 29 v) (h : DataW.Trod enc Try.prog W 0 (fun _ => true) true 29 v d p) :
    ∃ (A : Option Addr) (c : Nat) (xs : List Q), v = .slice A xs.length c ∧ xs.length ≤ c ∧ c ≤ maxLen ∧ Cells W W.heap.size A xs.length c 4 (flatQ xs) ∧ ((d = .nil ∧ xs = []) ∨ ∃ el sp, d = .slice el sp ∧ el.length = xs.length) := by
  obtain ⟨A, len, c, rfl⟩ := okWide_slice Try.underlying29 hv
  obtain ⟨fuel, hf⟩ := h
  have hC : Try.prog.cellsOf 23 = 4 := by kernel_rfl
  rcases open_slice Try.underlying29 hf with ⟨hcs, hdx⟩ | ⟨a, l, cap, m, n, D, Pl, hcs, _, hl, hm, hmm, hdx, hall⟩
  · simp [Value.cells] at hcs
    obtain ⟨rfl, rfl, rfl⟩ := hcs
    exact ⟨none, 0, [], rfl, Nat.le_refl _, by unfold maxLen; omega, ⟨rfl, fun _ => ⟨rfl, rfl⟩, fun j u hu => by simp [flatQ] at hu⟩, .inl ⟨(Prod.mk.inj hdx).1, rfl⟩⟩
  · simp [Value.cells] at hcs
    obtain ⟨rfl, rfl, rfl⟩ := hcs
    have hlm : len ≤ m := by rw [hmm]; simp; exact hl
    have hs : ∀ i, i < len → ∃ q : Q, ∀ j u, [Value.int .i64 q.1, .int .i64 q.2.1, .int .i64 q.2.2.1, .int .i64 q.2.2.2][j]? = some u → W.cell? ((a.add (i * 4)).add j) = some u := by
      intro i hi
      obtain ⟨cs', h0, h1⟩ := hall i (by omega)
      obtain ⟨x0, x1, x2, x3, rfl, _⟩ := trod_items h1
      rw [hC] at h0
      obtain ⟨_, _, hat⟩ := World.cells?_some h0
      refine ⟨(x0, x1, x2, x3), fun j u hu => ?_⟩
      have hj : j < 4 := (List.getElem?_eq_some_iff.1 hu).1
      rw [hat j hj]; exact hu
    obtain ⟨b, o, s⟩ := a
    let f : Nat → Q := fun i => if h : i < len then (hs i h).choose else (0, 0, 0, 0)
    have hf2 : ∀ i (h : i < len) j u, [Value.int .i64 (f i).1, .int .i64 (f i).2.1, .int .i64 (f i).2.2.1, .int .i64 (f i).2.2.2][j]? = some u → W.cell? (((⟨b, o, s⟩ : Addr).add (i * 4)).add j) = some u := by
      intro i h
      have := (hs i h).choose_spec
      simp only [f, h, dite_true]
      exact this
    refine ⟨some ⟨b, o, s⟩, c, (List.range len).map f, by simp, by simpa using hl, hm, ⟨by rw [flatQ_length], (fun e => by cases e), fun j u hu => ?_⟩, .inr ⟨_, _, (Prod.mk.inj hdx).1, by simp⟩⟩
    have hj : j < len * 4 := by have := (List.getElem?_eq_some_iff.1 hu).1; rw [flatQ_length] at this; simpa using this
    have hsp : s = none := by
      have h0 := hf2 0 (by omega) 0 _ rfl
      rw [Nat.zero_mul] at h0
      have e : (((⟨b, o, s⟩ : Addr).add 0).add 0) = ⟨b, o, s⟩ := by unfold Addr.add; simp
      rw [e] at h0
      exact cell_plain h0
    subst hsp
    have hq : [Value.int .i64 (f (j / 4)).1, .int .i64 (f (j / 4)).2.1, .int .i64 (f (j / 4)).2.2.1, .int .i64 (f (j / 4)).2.2.2][j % 4]? = some u := by
      obtain ⟨e0, e1, e2, e3⟩ := flatQ_get ((List.range len).map f) (j / 4) (by simp; omega)
      simp only [List.getElem_map, List.getElem_range] at e0 e1 e2 e3
      have hm4 : j % 4 = 0 ∨ j % 4 = 1 ∨ j % 4 = 2 ∨ j % 4 = 3 := by omega
      rcases hm4 with hm4 | hm4 | hm4 | hm4
      · rw [show j = j / 4 * 4 from by omega, e0] at hu; rw [hm4]; exact hu
      · rw [show j = j / 4 * 4 + 1 from by omega, e1] at hu; rw [hm4]; exact hu
      · rw [show j = j / 4 * 4 + 2 from by omega, e2] at hu; rw [hm4]; exact hu
      · rw [show j = j / 4 * 4 + 3 from by omega, e3] at hu; rw [hm4]; exact hu
    have hc := hf2 (j / 4) (by omega) (j % 4) u hq
    rw [add_none, add_none] at hc
    refine ⟨b, o, rfl, cell_lt hc, ?_⟩
    rw [show o + j = o + j / 4 * 4 + j % 4 from by omega]
    exact hc

theorem Try.infoItems : (Try.prog.info? 23).map (fun i => (i.zero, i.size, i.bytes)) = some (some (.agg #[.int .i64 0, .int .i64 0, .int .i64 0, .int .i64 0]), 4, 32) := by kernel_rfl

end Go.Proofs.Ytbeebcocedmjkaa
