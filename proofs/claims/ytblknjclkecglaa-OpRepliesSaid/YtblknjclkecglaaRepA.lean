/- What may be a reply: op.mayReply, and the document's own MayReply. -/
import Derived.Test.YtblknjclkecglaaRepI
namespace Go.Proofs.Ytblknjclkecglaa
open Go.RowKit
set_option linter.unusedVariables false
set_option linter.unusedSimpArgs false

def wiB (n a b : Int) : Bool := decide (a ≤ n) && decide (n ≤ b)
theorem opWithin (n a b : Int) (w : World) : Calls Try.prog 27 #[.int .i64 n, .int .i64 a, .int .i64 b] w fun e w' => e = .returned (.bool (wiB n a b)) ∧ w = w' := by
  by_cases h1 : a ≤ n
  · by_cases h2 : n ≤ b
    · go_enter Try.func27, Try.ntmps27
      go_wp2_with fail
      go_ret
      exact ⟨ret_bool (by simp [wiB, h1, h2]), rfl⟩
    · go_enter Try.func27, Try.ntmps27
      go_wp2_with fail
      go_ret
      exact ⟨ret_bool (by simp [wiB, h1, h2]), rfl⟩
  · go_enter Try.func27, Try.ntmps27
    go_wp2_with fail
    go_ret
    exact ⟨ret_bool (by unfold wiB; rw [decide_eq_false (by omega : ¬ a ≤ n)]; rfl), rfl⟩
/-- a reply that may be -/
def repB (e i a b c d : Int) : Bool := wiB e 0 19 && (wiB i 0 1099511627776 && isP a b c d)
theorem wiB_iff {n a b : Int} : wiB n a b = true ↔ a ≤ n ∧ n ≤ b := by simp [wiB]
theorem wiB_not {n a b : Int} : wiB n a b = false ↔ n < a ∨ b < n := by rw [← Bool.not_eq_true, wiB_iff]; omega

set_option maxHeartbeats 1000000 in
theorem opMayReply (e i a b c d : Int) (w : World) :
    Calls Try.prog 36 #[.agg #[.int .i64 e, .int .i64 i, .int .i64 a, .int .i64 b, .int .i64 c, .int .i64 d]] w fun z w' => z = .returned (.bool (repB e i a b c d)) ∧ Below w.heap.size w w' := by
  by_cases h0 : 0 ≤ e
  · by_cases h1 : e ≤ 19
    · have hw1 : wiB e 0 19 = true := wiB_iff.2 ⟨h0, h1⟩
      go_enter Try.func36, Try.ntmps36
      go_wp2_with fail
      refine (opWithin _ _ _ _).mono ?_
      rintro z w1 ⟨rfl, rfl⟩
      cases h : wiB i 0 1099511627776
      · go_wp2_with fail
        go_ret
        exact ⟨ret_bool (by simp [repB, h]), by ((repeat (first | (with_reducible exact Below.refl _ _) | (with_reducible assumption) | ((with_reducible refine b_set ?_ ?_); · (first | omega | (simp; done) | (simp; omega))) | ((with_reducible refine b_alloc ?_ ?_); · (first | omega | (simp; done) | (simp; omega))) | (with_reducible refine Below.drew ?_) | (with_reducible refine b_drewN ?_) | ((with_reducible refine b_call (by assumption) ?_ ?_); · (first | omega | (simp; done) | (simp; omega))))); done)⟩
      · go_wp2_with fail
        refine (purseIs _ _ _ _ _).mono ?_
        rintro z w2 ⟨rfl, hb⟩
        have hs := hb.size; (try simp at hs)
        go_wp2_with fail
        go_ret
        exact ⟨ret_bool (by simp [repB, h, hw1]), by ((repeat (first | (with_reducible exact Below.refl _ _) | (with_reducible assumption) | ((with_reducible refine b_set ?_ ?_); · (first | omega | (simp; done) | (simp; omega))) | ((with_reducible refine b_alloc ?_ ?_); · (first | omega | (simp; done) | (simp; omega))) | (with_reducible refine Below.drew ?_) | (with_reducible refine b_drewN ?_) | ((with_reducible refine b_call (by assumption) ?_ ?_); · (first | omega | (simp; done) | (simp; omega))))); done)⟩
    · have hw1 : wiB e 0 19 = false := wiB_not.2 (by omega)
      go_enter Try.func36, Try.ntmps36
      go_wp2_with fail
      go_ret
      exact ⟨ret_bool (by simp [repB, hw1]), by ((repeat (first | (with_reducible exact Below.refl _ _) | (with_reducible assumption) | ((with_reducible refine b_set ?_ ?_); · (first | omega | (simp; done) | (simp; omega))) | ((with_reducible refine b_alloc ?_ ?_); · (first | omega | (simp; done) | (simp; omega))) | (with_reducible refine Below.drew ?_) | (with_reducible refine b_drewN ?_) | ((with_reducible refine b_call (by assumption) ?_ ?_); · (first | omega | (simp; done) | (simp; omega))))); done)⟩
  · have hw1 : wiB e 0 19 = false := wiB_not.2 (by omega)
    go_enter Try.func36, Try.ntmps36
    go_wp2_with fail
    go_ret
    exact ⟨ret_bool (by simp [repB, hw1]), by ((repeat (first | (with_reducible exact Below.refl _ _) | (with_reducible assumption) | ((with_reducible refine b_set ?_ ?_); · (first | omega | (simp; done) | (simp; omega))) | ((with_reducible refine b_alloc ?_ ?_); · (first | omega | (simp; done) | (simp; omega))) | (with_reducible refine Below.drew ?_) | (with_reducible refine b_drewN ?_) | ((with_reducible refine b_call (by assumption) ?_ ?_); · (first | omega | (simp; done) | (simp; omega))))); done)⟩

set_option maxHeartbeats 1000000 in
theorem refMayReply (e i a b c d : Int) (w : World) :
    Calls Try.prog 37 #[.agg #[.int .i64 e, .int .i64 i, .int .i64 a, .int .i64 b, .int .i64 c, .int .i64 d]] w fun z w' => z = .returned (.bool (repB e i a b c d)) ∧ Below w.heap.size w w' := by
  by_cases h0 : 0 ≤ e
  · by_cases h1 : e ≤ 19
    · have hw1 : wiB e 0 19 = true := wiB_iff.2 ⟨h0, h1⟩
      by_cases h2 : 0 ≤ i
      · by_cases h3 : i ≤ 1099511627776
        · have h : wiB i 0 1099511627776 = true := wiB_iff.2 ⟨h2, h3⟩
          go_enter Try.func37, Try.ntmps37
          go_wp2_with fail
          refine (refPIs _ _ _ _ _).mono ?_
          rintro z w2 ⟨rfl, hb⟩
          have hs := hb.size; (try simp at hs)
          go_wp2_with fail
          go_ret
          exact ⟨ret_bool (by simp [repB, h, hw1]), by ((repeat (first | (with_reducible exact Below.refl _ _) | (with_reducible assumption) | ((with_reducible refine b_set ?_ ?_); · (first | omega | (simp; done) | (simp; omega))) | ((with_reducible refine b_alloc ?_ ?_); · (first | omega | (simp; done) | (simp; omega))) | (with_reducible refine Below.drew ?_) | (with_reducible refine b_drewN ?_) | ((with_reducible refine b_call (by assumption) ?_ ?_); · (first | omega | (simp; done) | (simp; omega))))); done)⟩
        · have h : wiB i 0 1099511627776 = false := wiB_not.2 (by omega)
          go_enter Try.func37, Try.ntmps37
          go_wp2_with fail
          go_ret
          exact ⟨ret_bool (by simp [repB, h]), by ((repeat (first | (with_reducible exact Below.refl _ _) | (with_reducible assumption) | ((with_reducible refine b_set ?_ ?_); · (first | omega | (simp; done) | (simp; omega))) | ((with_reducible refine b_alloc ?_ ?_); · (first | omega | (simp; done) | (simp; omega))) | (with_reducible refine Below.drew ?_) | (with_reducible refine b_drewN ?_) | ((with_reducible refine b_call (by assumption) ?_ ?_); · (first | omega | (simp; done) | (simp; omega))))); done)⟩
      · have h : wiB i 0 1099511627776 = false := wiB_not.2 (by omega)
        go_enter Try.func37, Try.ntmps37
        go_wp2_with fail
        go_ret
        exact ⟨ret_bool (by simp [repB, h]), by ((repeat (first | (with_reducible exact Below.refl _ _) | (with_reducible assumption) | ((with_reducible refine b_set ?_ ?_); · (first | omega | (simp; done) | (simp; omega))) | ((with_reducible refine b_alloc ?_ ?_); · (first | omega | (simp; done) | (simp; omega))) | (with_reducible refine Below.drew ?_) | (with_reducible refine b_drewN ?_) | ((with_reducible refine b_call (by assumption) ?_ ?_); · (first | omega | (simp; done) | (simp; omega))))); done)⟩
    · have hw1 : wiB e 0 19 = false := wiB_not.2 (by omega)
      go_enter Try.func37, Try.ntmps37
      go_wp2_with fail
      go_ret
      exact ⟨ret_bool (by simp [repB, hw1]), by ((repeat (first | (with_reducible exact Below.refl _ _) | (with_reducible assumption) | ((with_reducible refine b_set ?_ ?_); · (first | omega | (simp; done) | (simp; omega))) | ((with_reducible refine b_alloc ?_ ?_); · (first | omega | (simp; done) | (simp; omega))) | (with_reducible refine Below.drew ?_) | (with_reducible refine b_drewN ?_) | ((with_reducible refine b_call (by assumption) ?_ ?_); · (first | omega | (simp; done) | (simp; omega))))); done)⟩
  · have hw1 : wiB e 0 19 = false := wiB_not.2 (by omega)
    go_enter Try.func37, Try.ntmps37
    go_wp2_with fail
    go_ret
    exact ⟨ret_bool (by simp [repB, hw1]), by ((repeat (first | (with_reducible exact Below.refl _ _) | (with_reducible assumption) | ((with_reducible refine b_set ?_ ?_); · (first | omega | (simp; done) | (simp; omega))) | ((with_reducible refine b_alloc ?_ ?_); · (first | omega | (simp; done) | (simp; omega))) | (with_reducible refine Below.drew ?_) | (with_reducible refine b_drewN ?_) | ((with_reducible refine b_call (by assumption) ?_ ?_); · (first | omega | (simp; done) | (simp; omega))))); done)⟩
end Go.Proofs.Ytblknjclkecglaa
