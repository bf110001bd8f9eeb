/- The directory: rows of zones; which change may be. -/
import Derived.Test.YtbohpjinkdffhaaDrA
import Derived.Test.YtbohpjinkdffhaaWhl
import Derived.Deep.QuietTactic
import Derived.BigQuiet
import Derived.Deep.Cut
import Derived.StillTailTactics
namespace Go.Proofs.Ytbohpjinkdffhaa
open Go.RowKit
set_option linter.unusedVariables false
set_option linter.unusedSimpArgs false

def znA (z : Zn) : Value := .agg #[.int .i64 z.id, .string z.fr, .string z.tt, .int .i64 z.ow, .int .i64 z.ep, .int .i64 z.pd, .int .i64 z.mv, .string z.ky, .int .i64 z.nw]
def chA (c : Ch) : Value := .agg #[.int .i64 c.kd, .int .i64 c.zo, .int .i64 c.ep, .int .i64 c.mv, .string c.ky]
theorem flatZ_app (a b : List Zn) : flatZ (a ++ b) = flatZ a ++ flatZ b := by simp [flatZ]
theorem flatZ_len (l : List Zn) : (flatZ l).length = l.length * 9 := by
  induction l with
  | nil => rfl
  | cons a r ih =>
    have : flatZ (a :: r) = znV a ++ flatZ r := rfl
    rw [this, List.length_append, ih]
    simp [znV]; omega
theorem flatZ_at : ∀ (l : List Zn) (j : Nat) (h : j < l.length), (flatZ l)[j * 9]? = some (.int .i64 l[j].id) ∧ (flatZ l)[j * 9 + 1]? = some (.string l[j].fr) ∧ (flatZ l)[j * 9 + 2]? = some (.string l[j].tt) ∧ (flatZ l)[j * 9 + 3]? = some (.int .i64 l[j].ow) ∧ (flatZ l)[j * 9 + 4]? = some (.int .i64 l[j].ep) ∧ (flatZ l)[j * 9 + 5]? = some (.int .i64 l[j].pd) ∧ (flatZ l)[j * 9 + 6]? = some (.int .i64 l[j].mv) ∧ (flatZ l)[j * 9 + 7]? = some (.string l[j].ky) ∧ (flatZ l)[j * 9 + 8]? = some (.int .i64 l[j].nw)
  | [], j, h => by cases h
  | a :: r, 0, h => by simp [flatZ, znV]
  | a :: r, j + 1, h => by
    have := flatZ_at r j (by simpa using h)
    have e : (j + 1) * 9 = j * 9 + 9 := by omega
    simp only [flatZ, List.flatMap_cons, znV, List.getElem_cons_succ] at this ⊢
    rw [e]
    exact this
theorem flatZ_one (l : List Zn) : ∀ u ∈ flatZ l, u.oneCell' = true := by
  intro u hu
  obtain ⟨z, _, hz⟩ := List.mem_flatMap.1 hu
  simp only [znV, List.mem_cons, List.not_mem_nil, or_false] at hz
  rcases hz with rfl | rfl | rfl | rfl | rfl | rfl | rfl | rfl | rfl <;> rfl
theorem znV_one (z : Zn) : ∀ u ∈ znV z, u.oneCell' = true := by
  intro u hz
  simp only [znV, List.mem_cons, List.not_mem_nil, or_false] at hz
  rcases hz with rfl | rfl | rfl | rfl | rfl | rfl | rfl | rfl | rfl <;> rfl
theorem flatZ_take (l : List Zn) (n : Nat) : flatZ (l.take n) = (flatZ l).take (n * 9) := by
  induction l generalizing n with
  | nil => simp [flatZ]
  | cons a r ih =>
    cases n with
    | zero => simp [flatZ]
    | succ n =>
      have e : (n + 1) * 9 = n * 9 + 9 := by omega
      have h1 : flatZ ((a :: r).take (n + 1)) = znV a ++ flatZ (r.take n) := by simp [flatZ]
      have h2 : flatZ (a :: r) = znV a ++ flatZ r := rfl
      rw [h1, h2, ih, e]
      simp [znV]
theorem flatZ_drop (l : List Zn) (n : Nat) : flatZ (l.drop n) = (flatZ l).drop (n * 9) := by
  induction l generalizing n with
  | nil => simp [flatZ]
  | cons a r ih =>
    cases n with
    | zero => simp [flatZ]
    | succ n =>
      have e : (n + 1) * 9 = n * 9 + 9 := by omega
      have h2 : flatZ (a :: r) = znV a ++ flatZ r := rfl
      rw [List.drop_succ_cons, h2, ih, e]
      simp [znV]
theorem drWithin (n a b : Int) (w : World) : Calls Try.prog 66 #[.int .i64 n, .int .i64 a, .int .i64 b] w fun e w' => e = .returned (.bool (decide (a ≤ n ∧ n ≤ b))) ∧ w' = w := by
  by_cases h1 : a ≤ n
  · by_cases h2 : n ≤ b
    · go_enter Try.func66, Try.ntmps66
      go_wp2_with fail
      go_ret
      exact ⟨ret_bool (by first | (simp [*]; done) | (simp [*]; omega) | (simp [*]; intro h; omega)), rfl⟩
    · go_enter Try.func66, Try.ntmps66
      go_wp2_with fail
      go_ret
      exact ⟨ret_bool (by first | (simp [*]; done) | (simp [*]; omega) | (simp [*]; intro h; omega)), rfl⟩
  · go_enter Try.func66, Try.ntmps66
    go_wp2_with fail
    go_ret
    exact ⟨ret_bool (by first | (simp [*]; done) | (simp [*]; omega) | (simp [*]; intro h; omega)), rfl⟩
end Go.Proofs.Ytbohpjinkdffhaa
