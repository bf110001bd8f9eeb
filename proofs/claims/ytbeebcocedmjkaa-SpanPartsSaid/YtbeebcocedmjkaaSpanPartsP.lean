/- Plain facts on spans that follow each other: cutting keeps it, each key is in just one. -/
import Derived.Test.YtbeebcocedmjkaaSpanAll
namespace Go.Proofs.Ytbeebcocedmjkaa
open Go.RowKit
set_option linter.unusedVariables false
set_option linter.unusedSimpArgs false

/-- spans from a on, each from where the last one ends, the last one open -/
def ch (a : List UInt8) : List (ByteArray × ByteArray) → Prop
  | [] => False
  | [(f, t)] => f.toList = a ∧ isB f t = true ∧ t.toList = []
  | (f, t) :: q :: r => f.toList = a ∧ isB f t = true ∧ t.toList ≠ [] ∧ ch t.toList (q :: r)

theorem ch_ne {a : List UInt8} {xs : List (ByteArray × ByteArray)} (h : ch a xs) : 0 < xs.length := by
  cases xs with
  | nil => exact h.elim
  | cons p r => simp
theorem ch_head {a : List UInt8} {f t : ByteArray} {r : List (ByteArray × ByteArray)} (h : ch a ((f, t) :: r)) : f.toList = a ∧ isB f t = true := by
  cases r with
  | nil => exact ⟨h.1, h.2.1⟩
  | cons q r => exact ⟨h.1, h.2.1⟩
theorem isB_iff2 {f t : ByteArray} : isB f t = true ↔ f.size ≤ 16 ∧ t.size ≤ 16 ∧ (t.toList = [] ∨ (Op.bytesLess t.toList f.toList = false ∧ t.toList ≠ f.toList)) := by
  simp only [isB, Bool.and_eq_true, decide_eq_true_eq, Bool.or_eq_true, List.isEmpty_iff, Bool.not_eq_true', Bool.or_eq_false_iff, beq_eq_false_iff_ne]
  constructor
  · rintro ⟨⟨h1, h2⟩, h3⟩; exact ⟨by omega, by omega, h3⟩
  · rintro ⟨h1, h2, h3⟩; exact ⟨⟨by omega, by omega⟩, h3⟩
theorem inB_iff2 {f t k : ByteArray} : inB f t k = true ↔ isB f t = true ∧ 1 ≤ k.size ∧ k.size ≤ 16 ∧ Op.bytesLess k.toList f.toList = false ∧ (t.toList = [] ∨ Op.bytesLess k.toList t.toList = true) := by
  simp only [inB, Bool.and_eq_true, decide_eq_true_eq, Bool.or_eq_true, List.isEmpty_iff, Bool.not_eq_true']
  constructor
  · rintro ⟨⟨⟨⟨h1, h2⟩, h3⟩, h4⟩, h5⟩; exact ⟨h1, by omega, by omega, h4, h5⟩
  · rintro ⟨h1, h2, h3, h4, h5⟩; exact ⟨⟨⟨⟨h1, by omega⟩, by omega⟩, h4⟩, h5⟩
theorem cutB_iff2 {f t k : ByteArray} : cutB f t k = true ↔ inB f t k = true ∧ Op.bytesLess k.toList f.toList = false ∧ k.toList ≠ f.toList := by
  simp only [cutB, Bool.and_eq_true, Bool.not_eq_true', Bool.or_eq_false_iff, beq_eq_false_iff_ne]
theorem toList_ne {k : ByteArray} (h : 1 ≤ k.size) : k.toList ≠ [] := by
  intro e
  have := nonempty_of h
  rw [e] at this
  cases this
theorem size_nil {k : ByteArray} (h : k.toList = []) : k.size = 0 := by
  rcases Nat.eq_zero_or_pos k.size with h1 | h1
  · exact h1
  · exact absurd h (toList_ne h1)
theorem less_ne {a b : List UInt8} (h : Op.bytesLess a b = true) : b ≠ a := by
  intro e; subst e; rw [less_irrefl] at h; cases h

/-- a span that is cut: both halves follow each other -/
theorem ch_cut : ∀ (xs : List (ByteArray × ByteArray)) (a : List UInt8) (k : Nat) (c : ByteArray) (h : k < xs.length), ch a xs → cutB xs[k].1 xs[k].2 c = true →
    ch a (xs.take k ++ [(xs[k].1, c), (c, xs[k].2)] ++ xs.drop (k + 1))
  | (f, t) :: r, a, 0, c, h, hc, hk => by
    simp only [List.getElem_cons_zero, List.take_zero, List.nil_append, List.drop_succ_cons, List.drop_zero, List.cons_append] at hk ⊢
    have i1 := cut_left hk
    have i2 := cut_right hk
    have i3 : c.toList ≠ [] := toList_ne (cutB_iff.1 hk).2.1
    cases r with
    | nil => exact ⟨hc.1, i1, i3, rfl, i2, hc.2.2⟩
    | cons q r => exact ⟨hc.1, i1, i3, rfl, i2, hc.2.2.1, hc.2.2.2⟩
  | [(f, t)], a, k + 1, c, h, hc, hk => by simp at h
  | (f, t) :: q :: r, a, k + 1, c, h, hc, hk => by
    simp only [List.getElem_cons_succ] at hk
    have ih := ch_cut (q :: r) t.toList k c (by simpa using h) hc.2.2.2 hk
    simp only [List.take_succ_cons, List.cons_append, List.drop_succ_cons, List.getElem_cons_succ] at ih ⊢
    have hlen : k < (q :: r).length := by simpa using h
    generalize List.take k (q :: r) ++ [((q :: r)[k].1, c), (c, (q :: r)[k].2)] ++ List.drop k r = ys at ih ⊢
    cases ys with
    | nil => exact ih.elim
    | cons z s => exact ⟨hc.1, hc.2.1, hc.2.2.1, ih⟩

/-- what is ahead of all is in none -/
theorem ch_none : ∀ (xs : List (ByteArray × ByteArray)) (a : List UInt8) (key : ByteArray), ch a xs → Op.bytesLess key.toList a = true → xs.countP (fun p => inB p.1 p.2 key) = 0
  | [(f, t)], a, key, h, hl => by
    have : inB f t key = false := by
      cases e : inB f t key
      · rfl
      · have := (inB_iff2.1 e).2.2.2.1; rw [h.1, hl] at this; cases this
    simp [this]
  | (f, t) :: q :: r, a, key, h, hl => by
    have : inB f t key = false := by
      cases e : inB f t key
      · rfl
      · have := (inB_iff2.1 e).2.2.2.1; rw [h.1, hl] at this; cases this
    have h3 : Op.bytesLess key.toList t.toList = true := by
      obtain ⟨_, _, e3⟩ := isB_iff2.1 h.2.1
      rcases e3 with e3 | ⟨e3, e4⟩
      · exact absurd e3 h.2.2.1
      · exact less_nless (h.1 ▸ hl) e3
    rw [List.countP_cons, ch_none (q :: r) t.toList key h.2.2.2 h3]
    simp [this]
/-- a key is in just one -/
theorem ch_one : ∀ (xs : List (ByteArray × ByteArray)) (a : List UInt8) (key : ByteArray), ch a xs → 1 ≤ key.size → key.size ≤ 16 → Op.bytesLess key.toList a = false → xs.countP (fun p => inB p.1 p.2 key) = 1
  | [(f, t)], a, key, h, h1, h2, hl => by
    have : inB f t key = true := inB_iff2.2 ⟨h.2.1, h1, h2, by rw [h.1]; exact hl, Or.inl h.2.2⟩
    simp [this]
  | (f, t) :: q :: r, a, key, h, h1, h2, hl => by
    rw [List.countP_cons]
    cases h3 : Op.bytesLess key.toList t.toList
    · have : inB f t key = false := by
        cases e : inB f t key
        · rfl
        · rcases (inB_iff2.1 e).2.2.2.2 with e5 | e5
          · exact absurd e5 h.2.2.1
          · rw [h3] at e5; cases e5
      rw [ch_one (q :: r) t.toList key h.2.2.2 h1 h2 h3]
      simp [this]
    · have : inB f t key = true := inB_iff2.2 ⟨h.2.1, h1, h2, by rw [h.1]; exact hl, Or.inr h3⟩
      rw [ch_none (q :: r) t.toList key h.2.2.2 h3]
      simp [this]

theorem ch_chain : ∀ (r : List (ByteArray × ByteArray)) (g f t : ByteArray), g.toList = [] → g.size = 0 → (f.toList = [] ∨ True) → isB g t = true → (r = [] → t.toList = []) → (r ≠ [] → t.toList ≠ [] ∧ ch t.toList r) → endB g t r = true
  | [], g, f, t, hg, hg0, _, hi, h1, _ => by
    unfold endB chainB
    simp [hi, h1 rfl]
  | (x, u) :: r, g, f, t, hg, hg0, _, hi, _, h2 => by
    obtain ⟨h3, h4⟩ := h2 (by simp)
    obtain ⟨h5, h6⟩ := ch_head h4
    have hj : joinB g t x u = true := by
      unfold joinB
      rw [hi, h6, h5]
      simp [List.isEmpty_eq_false_iff, h3]
    have hu : isB g u = true := by
      obtain ⟨e1, e2, e3⟩ := isB_iff2.1 h6
      refine isB_iff2.2 ⟨by omega, e2, ?_⟩
      rw [hg]
      by_cases e : u.toList = []
      · exact Or.inl e
      · exact Or.inr ⟨less_nil _, e⟩
    have := ch_chain r g f u hg hg0 (Or.inr trivial) hu (fun e => by subst e; exact h4.2.2) (fun e => by
      cases r with
      | nil => exact absurd rfl e
      | cons q r => exact ⟨h4.2.2.1, h4.2.2.2⟩)
    unfold endB at this ⊢
    rw [chainB, if_pos hj]
    exact this
theorem ch_all {xs : List (ByteArray × ByteArray)} (h : ch [] xs) : allB xs = true := by
  cases xs with
  | nil => exact h.elim
  | cons p r =>
    obtain ⟨f, t⟩ := p
    obtain ⟨h1, h2⟩ := ch_head h
    have h0 : f.size = 0 := size_nil h1
    have := ch_chain r f f t h1 h0 (Or.inr trivial) h2 (fun e => by subst e; exact h.2.2) (fun e => by
      cases r with
      | nil => exact absurd rfl e
      | cons q r => exact ⟨h.2.2.1, h.2.2.2⟩)
    show (f.toList.isEmpty && endB f t r) = true
    rw [h1, this]; rfl

end Go.Proofs.Ytbeebcocedmjkaa
