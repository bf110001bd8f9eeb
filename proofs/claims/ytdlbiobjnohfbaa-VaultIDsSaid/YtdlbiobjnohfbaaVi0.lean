/- Heaps, pure: rows of numbers where each is not less than the one above it. -/
import Derived.ProofKit
namespace Go.Proofs.Ytdlbiobjnohfbaa
set_option linter.unusedVariables false
set_option linter.unusedSimpArgs false
/-- the numbers i and j change places -/
def swp (f : Nat → Int) (i j : Nat) : Nat → Int := fun k => if k = i then f j else if k = j then f i else f k
def HeapF (f : Nat → Int) (n : Nat) : Prop := ∀ i, 0 < i → i < n → f ((i - 1) / 2) ≤ f i
/-- a heap but for what stands at j, which may be less than the one above it -/
def UpI (f : Nat → Int) (n j : Nat) : Prop := (∀ i, 0 < i → i < n → i ≠ j → f ((i - 1) / 2) ≤ f i) ∧ (0 < j → ∀ i, 0 < i → i < n → (i - 1) / 2 = j → f ((j - 1) / 2) ≤ f i)
theorem UpI.zero {f : Nat → Int} {n : Nat} (h : UpI f n 0) : HeapF f n := fun i h0 hn => h.1 i h0 hn (by omega)
theorem UpI.stop {f : Nat → Int} {n j : Nat} (h : UpI f n j) (hj : f ((j - 1) / 2) ≤ f j) : HeapF f n := fun i h0 hn => by
  by_cases e : i = j
  · subst e; exact hj
  · exact h.1 i h0 hn e
theorem UpI.step {f : Nat → Int} {n j p : Nat} (h : UpI f n j) (hj : 0 < j) (hn : j < n) (hp : p = (j - 1) / 2) (hlt : f j < f p) : UpI (swp f p j) n p := by
  have hpj : p < j := by omega
  constructor
  · intro i h0 hin hip
    unfold swp
    by_cases e1 : i = j
    · subst e1
      rw [← hp, if_pos rfl, if_neg (by omega), if_pos rfl]
      exact Int.le_of_lt hlt
    · by_cases e2 : (i - 1) / 2 = j
      · have := h.2 hj i h0 hin e2
        rw [← hp] at this
        rw [e2, if_neg (by omega), if_pos rfl, if_neg hip, if_neg e1]
        exact this
      · by_cases e3 : (i - 1) / 2 = p
        · have := h.1 i h0 hin e1
          rw [e3] at this
          rw [e3, if_pos rfl, if_neg hip, if_neg e1]
          omega
        · rw [if_neg e3, if_neg e2, if_neg hip, if_neg e1]
          exact h.1 i h0 hin e1
  · intro hp0 i h0 hin hip
    have hpp : f ((p - 1) / 2) ≤ f p := h.1 p hp0 (by omega) (by omega)
    have hq : (p - 1) / 2 < p := by omega
    unfold swp
    rw [if_neg (by omega), if_neg (by omega)]
    by_cases e1 : i = j
    · subst e1
      rw [if_neg (by omega), if_pos rfl]; exact hpp
    · have := h.1 i h0 hin e1
      rw [hip] at this
      rw [if_neg (by omega), if_neg e1]
      omega
/-- a heap but for what stands at i, which may be greater than those below it (and, unless b, less than the one above it) -/
def DownI (f : Nat → Int) (n i : Nat) (b : Bool) : Prop := (∀ k, 0 < k → k < n → (k - 1) / 2 ≠ i → (k ≠ i ∨ b = true) → f ((k - 1) / 2) ≤ f k) ∧ (0 < i → ∀ k, 0 < k → k < n → (k - 1) / 2 = i → f ((i - 1) / 2) ≤ f k)
theorem DownI.stop {f : Nat → Int} {n i : Nat} {b : Bool} (h : DownI f n i b) (hc : ∀ k, 0 < k → k < n → (k - 1) / 2 = i → f i ≤ f k) : UpI f n i ∧ (b = true → HeapF f n) := by
  constructor
  · constructor
    · intro k h0 hn hk
      by_cases e : (k - 1) / 2 = i
      · rw [e]; exact hc k h0 hn e
      · exact h.1 k h0 hn e (.inl hk)
    · exact fun h0 k k0 kn ke => h.2 h0 k k0 kn ke
  · intro hb k h0 hn
    by_cases e : (k - 1) / 2 = i
    · rw [e]; exact hc k h0 hn e
    · exact h.1 k h0 hn e (.inr hb)
theorem DownI.step {f : Nat → Int} {n i j : Nat} {b : Bool} (h : DownI f n i b) (hj0 : 0 < j) (hjn : j < n) (hji : (j - 1) / 2 = i) (hlt : f j < f i) (hmin : ∀ k, 0 < k → k < n → (k - 1) / 2 = i → f j ≤ f k) : DownI (swp f i j) n j true := by
  have hij : i < j := by omega
  constructor
  · intro k h0 hn hkj _
    unfold swp
    by_cases e1 : k = j
    · subst e1
      rw [hji, if_pos rfl, if_neg (by omega), if_pos rfl]
      exact Int.le_of_lt hlt
    · by_cases e2 : k = i
      · subst e2
        rw [if_neg (by omega), if_neg (by omega), if_pos rfl]
        exact h.2 h0 j hj0 hjn hji
      · by_cases e3 : (k - 1) / 2 = i
        · rw [if_pos e3, if_neg e2, if_neg e1]
          exact hmin k h0 hn e3
        · rw [if_neg e3, if_neg hkj, if_neg e2, if_neg e1]
          exact h.1 k h0 hn e3 (.inl e2)
  · intro _ k h0 hn hkj
    unfold swp
    rw [hji, if_pos rfl, if_neg (by omega), if_neg (by omega)]
    have := h.1 k h0 hn (by omega) (.inl (by omega))
    rw [hkj] at this
    exact this
/-- the first of a heap is the least -/
theorem HeapF.least {f : Nat → Int} {n : Nat} (h : HeapF f n) : ∀ i, i < n → f 0 ≤ f i := by
  intro i
  induction i using Nat.strongRecOn with
  | ind i ih =>
    intro hi
    by_cases h0 : i = 0
    · subst h0; exact Int.le_refl _
    · have h1 := h i (by omega) hi
      have h2 := ih ((i - 1) / 2) (by omega) (by omega)
      omega
theorem HeapF.push {f : Nat → Int} {n : Nat} (h : HeapF f n) : UpI f (n + 1) n :=
  ⟨fun i h0 hn hi => h i h0 (by omega), fun h0 i i0 hi he => by omega⟩
/-- the last one is put into the place of number i, and leaves -/
theorem HeapF.remove {f : Nat → Int} {n i : Nat} (h : HeapF f (n + 1)) (hi : i < n) : DownI (swp f i n) n i (i == 0) := by
  constructor
  · intro k h0 hn hk hki
    unfold swp
    have hk1 : k ≠ i := by
      rcases hki with h | h
      · exact h
      · simp at h; omega
    rw [if_neg hk, if_neg (by omega), if_neg hk1, if_neg (by omega)]
    exact h k h0 (by omega)
  · intro i0 k h0 hn hk
    unfold swp
    rw [if_neg (by omega), if_neg (by omega), if_neg (by omega), if_neg (by omega)]
    have h1 := h k h0 (by omega)
    have h2 := h i i0 (by omega)
    rw [hk] at h1
    omega
theorem HeapF.less {f : Nat → Int} {n m : Nat} (h : HeapF f n) (hm : m ≤ n) : HeapF f m := fun i h0 hi => h i h0 (by omega)
theorem HeapF.congr {f g : Nat → Int} {n : Nat} (h : HeapF f n) (e : ∀ i, i < n → f i = g i) : HeapF g n := fun i h0 hi => by
  rw [← e i hi, ← e _ (by omega)]; exact h i h0 hi
theorem UpI.congr {f g : Nat → Int} {n j : Nat} (h : UpI f n j) (hj : j < n) (e : ∀ i, i < n → f i = g i) : UpI g n j :=
  ⟨fun i h0 hi hne => by rw [← e i hi, ← e _ (by omega)]; exact h.1 i h0 hi hne, fun j0 i h0 hi he => by rw [← e i hi, ← e _ (by omega)]; exact h.2 j0 i h0 hi he⟩
theorem DownI.congr {f g : Nat → Int} {n j : Nat} {b : Bool} (h : DownI f n j b) (e : ∀ i, i < n → f i = g i) : DownI g n j b :=
  ⟨fun i h0 hi hne hb => by rw [← e i hi, ← e _ (by omega)]; exact h.1 i h0 hi hne hb, fun j0 i h0 hi he => by rw [← e i hi, ← e _ (by omega)]; exact h.2 j0 i h0 hi he⟩
end Go.Proofs.Ytdlbiobjnohfbaa
