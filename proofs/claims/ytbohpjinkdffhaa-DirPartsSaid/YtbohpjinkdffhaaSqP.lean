/- Plain facts on spans: what is cut and joined, what lies within what. -/
import Derived.Test.YtbohpjinkdffhaaSqB
import Derived.Test.YtbohpjinkdffhaaOrder
namespace Go.Proofs.Ytbohpjinkdffhaa
open Go.RowKit

theorem isB_iff {f t : ByteArray} : isB f t = true ↔ f.size ≤ 16 ∧ t.size ≤ 16 ∧ (t.toList.isEmpty = true ∨ Op.bytesLess f.toList t.toList = true) := by
  unfold isB
  simp only [Bool.and_eq_true, decide_eq_true_eq, Bool.or_eq_true, Bool.not_eq_true', Bool.or_eq_false_iff]
  constructor
  · rintro ⟨⟨h1, h2⟩, h3⟩
    refine ⟨by omega, by omega, ?_⟩
    rcases h3 with h3 | ⟨h3, h4⟩
    · exact .inl h3
    · right
      cases h5 : Op.bytesLess f.toList t.toList
      · have := less_eq h5 h3
        rw [this] at h4; simp at h4
      · rfl
  · rintro ⟨h1, h2, h3⟩
    refine ⟨⟨by omega, by omega⟩, ?_⟩
    rcases h3 with h3 | h3
    · exact .inl h3
    · right
      refine ⟨less_asymm h3, ?_⟩
      cases h5 : t.toList == f.toList
      · rfl
      · rw [beq_iff_eq] at h5
        rw [h5, less_irrefl] at h3; cases h3
theorem inB_iff {f t k : ByteArray} : inB f t k = true ↔ isB f t = true ∧ 1 ≤ k.size ∧ k.size ≤ 16 ∧ Op.bytesLess k.toList f.toList = false ∧ (t.toList.isEmpty = true ∨ Op.bytesLess k.toList t.toList = true) := by
  unfold inB
  simp only [Bool.and_eq_true, decide_eq_true_eq, Bool.or_eq_true, Bool.not_eq_true']
  constructor
  · rintro ⟨⟨⟨⟨h0, h1⟩, h2⟩, h3⟩, h4⟩
    exact ⟨h0, by omega, by omega, h3, h4⟩
  · rintro ⟨h0, h1, h2, h3, h4⟩
    exact ⟨⟨⟨⟨h0, by omega⟩, by omega⟩, h3⟩, h4⟩
theorem cutB_iff {f t k : ByteArray} : cutB f t k = true ↔ isB f t = true ∧ 1 ≤ k.size ∧ k.size ≤ 16 ∧ Op.bytesLess f.toList k.toList = true ∧ (t.toList.isEmpty = true ∨ Op.bytesLess k.toList t.toList = true) := by
  unfold cutB
  rw [Bool.and_eq_true, inB_iff]
  simp only [Bool.not_eq_true', Bool.or_eq_false_iff]
  constructor
  · rintro ⟨⟨h0, h1, h2, h3, h4⟩, h5, h6⟩
    refine ⟨h0, h1, h2, ?_, h4⟩
    cases h7 : Op.bytesLess f.toList k.toList
    · rw [less_eq h7 h5] at h6; simp at h6
    · rfl
  · rintro ⟨h0, h1, h2, h3, h4⟩
    refine ⟨⟨h0, h1, h2, less_asymm h3, h4⟩, less_asymm h3, ?_⟩
    cases h5 : k.toList == f.toList
    · rfl
    · rw [beq_iff_eq] at h5; rw [h5, less_irrefl] at h3; cases h3
theorem withinB_iff {f t g u : ByteArray} : withinB f t g u = true ↔ isB f t = true ∧ isB g u = true ∧ Op.bytesLess f.toList g.toList = false ∧ (u.toList.isEmpty = true ∨ (t.toList.isEmpty = false ∧ Op.bytesLess u.toList t.toList = false)) := by
  unfold withinB
  simp only [Bool.and_eq_true, Bool.or_eq_true, Bool.not_eq_true']
  constructor
  · rintro ⟨⟨⟨h0, h1⟩, h2⟩, h3⟩
    refine ⟨h0, h1, h2, ?_⟩
    rcases h3 with h3 | ⟨h3, h4⟩
    · exact .inl h3
    · refine .inr ⟨h3, ?_⟩
      rcases h4 with h4 | h4
      · exact less_asymm h4
      · rw [beq_iff_eq] at h4; rw [h4, less_irrefl]
  · rintro ⟨h0, h1, h2, h3⟩
    refine ⟨⟨⟨h0, h1⟩, h2⟩, ?_⟩
    rcases h3 with h3 | ⟨h3, h4⟩
    · exact .inl h3
    · refine .inr ⟨h3, ?_⟩
      cases h5 : Op.bytesLess t.toList u.toList
      · right; rw [beq_iff_eq]; exact less_eq h5 h4
      · exact .inl rfl

theorem cut_left {f t k : ByteArray} (h : cutB f t k = true) : isB f k = true := by
  obtain ⟨h0, h1, h2, h3, h4⟩ := cutB_iff.1 h
  exact isB_iff.2 ⟨(isB_iff.1 h0).1, h2, .inr h3⟩
theorem cut_right {f t k : ByteArray} (h : cutB f t k = true) : isB k t = true := by
  obtain ⟨h0, h1, h2, h3, h4⟩ := cutB_iff.1 h
  exact isB_iff.2 ⟨h2, (isB_iff.1 h0).2.1, h4⟩
theorem cut_join {f t k : ByteArray} (h : cutB f t k = true) : joinB f k k t = true := by
  obtain ⟨h0, h1, h2, h3, h4⟩ := cutB_iff.1 h
  unfold joinB
  rw [cut_left h, cut_right h, nonempty_of h1]; simp
theorem cut_within1 {f t k : ByteArray} (h : cutB f t k = true) : withinB f k f t = true := by
  obtain ⟨h0, h1, h2, h3, h4⟩ := cutB_iff.1 h
  refine withinB_iff.2 ⟨cut_left h, h0, less_irrefl _, ?_⟩
  rcases h4 with h4 | h4
  · exact .inl h4
  · exact .inr ⟨nonempty_of h1, less_asymm h4⟩
theorem cut_within2 {f t k : ByteArray} (h : cutB f t k = true) : withinB k t f t = true := by
  obtain ⟨h0, h1, h2, h3, h4⟩ := cutB_iff.1 h
  refine withinB_iff.2 ⟨cut_right h, h0, less_asymm h3, ?_⟩
  cases h5 : t.toList.isEmpty
  · exact .inr ⟨rfl, less_irrefl _⟩
  · exact .inl rfl
/-- a key of the whole is one of just one part, a key of a part one of the whole -/
theorem cut_keys {f t k x : ByteArray} (h : cutB f t k = true) : inB f t x = (inB f k x != inB k t x) ∧ (inB f k x && inB k t x) = false := by
  obtain ⟨h0, h1, h2, h3, h4⟩ := cutB_iff.1 h
  have e1 : inB f k x = true ↔ 1 ≤ x.size ∧ x.size ≤ 16 ∧ Op.bytesLess x.toList f.toList = false ∧ Op.bytesLess x.toList k.toList = true := by
    rw [inB_iff]
    constructor
    · rintro ⟨_, a, b, c, d⟩
      refine ⟨a, b, c, ?_⟩
      rcases d with d | d
      · rw [nonempty_of h1] at d; cases d
      · exact d
    · rintro ⟨a, b, c, d⟩
      exact ⟨cut_left h, a, b, c, .inr d⟩
  have e2 : inB k t x = true ↔ 1 ≤ x.size ∧ x.size ≤ 16 ∧ Op.bytesLess x.toList k.toList = false ∧ (t.toList.isEmpty = true ∨ Op.bytesLess x.toList t.toList = true) := by
    rw [inB_iff]
    exact ⟨fun ⟨_, a⟩ => a, fun a => ⟨cut_right h, a⟩⟩
  have e3 : inB f t x = true ↔ 1 ≤ x.size ∧ x.size ≤ 16 ∧ Op.bytesLess x.toList f.toList = false ∧ (t.toList.isEmpty = true ∨ Op.bytesLess x.toList t.toList = true) := by
    rw [inB_iff]
    exact ⟨fun ⟨_, a⟩ => a, fun a => ⟨h0, a⟩⟩
  cases hx : Op.bytesLess x.toList k.toList
  · have n1 : inB f k x = false := by
      cases hi : inB f k x
      · rfl
      · rw [e1, hx] at hi; exact absurd hi.2.2.2 (by simp)
    have n2 : inB f t x = inB k t x := by
      rw [Bool.eq_iff_iff, e2, e3]
      constructor
      · rintro ⟨a, b, c, d⟩; exact ⟨a, b, hx, d⟩
      · rintro ⟨a, b, c, d⟩; exact ⟨a, b, nless_trans (less_asymm h3) hx, d⟩
    rw [n1, n2]; simp
  · have n1 : inB k t x = false := by
      cases hi : inB k t x
      · rfl
      · rw [e2, hx] at hi; exact absurd hi.2.2.1 (by simp)
    have n2 : inB f t x = inB f k x := by
      rw [Bool.eq_iff_iff, e1, e3]
      constructor
      · rintro ⟨a, b, c, d⟩; exact ⟨a, b, c, hx⟩
      · rintro ⟨a, b, c, d⟩
        refine ⟨a, b, c, ?_⟩
        rcases h4 with h4 | h4
        · exact .inl h4
        · exact .inr (less_trans hx h4)
    rw [n1, n2]; simp

theorem within_refl {f t : ByteArray} (h : isB f t = true) : withinB f t f t = true := by
  refine withinB_iff.2 ⟨h, h, less_irrefl _, ?_⟩
  cases h5 : t.toList.isEmpty
  · exact .inr ⟨rfl, less_irrefl _⟩
  · exact .inl rfl
theorem within_trans {f t g u i j : ByteArray} (h : withinB f t g u = true) (h2 : withinB g u i j = true) : withinB f t i j = true := by
  obtain ⟨a1, a2, a3, a4⟩ := withinB_iff.1 h
  obtain ⟨b1, b2, b3, b4⟩ := withinB_iff.1 h2
  refine withinB_iff.2 ⟨a1, b2, nless_trans b3 a3, ?_⟩
  rcases b4 with b4 | ⟨b4, b5⟩
  · exact .inl b4
  · rcases a4 with a4 | ⟨a4, a5⟩
    · rw [a4] at b4; cases b4
    · exact .inr ⟨a4, nless_trans a5 b5⟩
theorem within_key {f t g u x : ByteArray} (h : withinB f t g u = true) (h2 : inB f t x = true) : inB g u x = true := by
  obtain ⟨a1, a2, a3, a4⟩ := withinB_iff.1 h
  obtain ⟨b1, b2, b3, b4, b5⟩ := inB_iff.1 h2
  refine inB_iff.2 ⟨a2, b2, b3, nless_trans a3 b4, ?_⟩
  rcases a4 with a4 | ⟨a4, a5⟩
  · exact .inl a4
  · rcases b5 with b5 | b5
    · rw [b5] at a4; cases a4
    · exact .inr (less_nless b5 a5)

end Go.Proofs.Ytbohpjinkdffhaa
