/- Plain facts on the order of texts, byte by byte. -/
import GoSem.Op.String
import Derived.Lib.Strings
namespace Go.Proofs.Ytbohpjinkdffhaa

theorem bytesLess_eq : ∀ (x y : List UInt8), Op.bytesLess x y = decide (x < y)
  | [], [] => by simp [Op.bytesLess]
  | _ :: _, [] => by simp [Op.bytesLess]
  | [], _ :: _ => by simp [Op.bytesLess]
  | a :: x, b :: y => by
    rw [Op.bytesLess, bytesLess_eq x y]
    simp only [List.cons_lt_cons_iff]
    by_cases h1 : a < b <;> by_cases h2 : a = b <;> by_cases h3 : x < y <;> simp [h1, h2, h3]
theorem less_irrefl (a : List UInt8) : Op.bytesLess a a = false := by rw [bytesLess_eq]; simp [List.lt_irrefl]
theorem less_trans {a b c : List UInt8} (h : Op.bytesLess a b = true) (h2 : Op.bytesLess b c = true) : Op.bytesLess a c = true := by
  rw [bytesLess_eq, decide_eq_true_iff] at *; exact List.lt_trans h h2
theorem less_asymm {a b : List UInt8} (h : Op.bytesLess a b = true) : Op.bytesLess b a = false := by
  rw [bytesLess_eq] at *; simp only [decide_eq_true_eq, decide_eq_false_iff_not] at *; exact List.lt_asymm h
theorem less_eq {a b : List UInt8} (h : Op.bytesLess a b = false) (h2 : Op.bytesLess b a = false) : a = b := by
  rw [bytesLess_eq] at *; simp only [decide_eq_false_iff_not] at *; exact List.le_antisymm (List.not_lt.1 h2) (List.not_lt.1 h)
/-- not less and less -/
theorem nless_less {a b c : List UInt8} (h : Op.bytesLess b a = false) (h2 : Op.bytesLess b c = true) : Op.bytesLess a c = true := by
  rw [bytesLess_eq] at *; simp only [decide_eq_true_eq, decide_eq_false_iff_not] at *; exact List.lt_of_le_of_lt (List.not_lt.1 h) h2
theorem less_nless {a b c : List UInt8} (h : Op.bytesLess a b = true) (h2 : Op.bytesLess c b = false) : Op.bytesLess a c = true := by
  cases h3 : Op.bytesLess a c
  · exact absurd (nless_less h3 h) (by rw [h2]; simp)
  · rfl
theorem nless_trans {a b c : List UInt8} (h : Op.bytesLess b a = false) (h2 : Op.bytesLess c b = false) : Op.bytesLess c a = false := by
  cases h3 : Op.bytesLess c a
  · rfl
  · exact absurd (less_nless h3 h) (by rw [h2]; simp)
theorem less_nil (a : List UInt8) : Op.bytesLess a [] = false := by cases a <;> rfl
theorem nil_less {a : List UInt8} (h : a ≠ []) : Op.bytesLess [] a = true := by cases a with | nil => exact absurd rfl h | cons x y => rfl

theorem nonempty_of {s : ByteArray} (h : 1 ≤ s.size) : s.toList.isEmpty = false := by
  rw [Lib.toList_data]; cases hd : s.data.toList with
  | nil => have : s.data.size = 0 := by rw [← Array.length_toList, hd]; rfl
           exact absurd h (by show ¬ 1 ≤ s.data.size; omega)
  | cons x y => rfl
theorem empty_of {s : ByteArray} (h : s.toList.isEmpty = true) : s.toList = [] := by cases hs : s.toList with | nil => rfl | cons x y => rw [hs] at h; exact absurd h (by simp)

end Go.Proofs.Ytbohpjinkdffhaa
