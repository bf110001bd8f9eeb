/- The document's directory: which change may be. -/
import Derived.Test.YtepjehcmiofehaaPq2
namespace Go.Proofs.Ytepjehcmiofehaa
open Go.RowKit
set_option linter.unusedVariables false
set_option linter.unusedSimpArgs false
theorem refKey (s : ByteArray) (w : World) : Calls Try.prog 39 #[.string s] w fun e w' => e = .returned (.bool (decide ((1 : Int) ≤ (s.size : Int) ∧ (s.size : Int) ≤ 16))) ∧ w' = w := by
  by_cases h1 : (1 : Int) ≤ (s.size : Int)
  · by_cases h2 : (s.size : Int) ≤ 16
    · go_enter Try.func39, Try.ntmps39
      go_wp2_with fail
      go_ret
      exact ⟨ret_bool (by first | (simp [*]; done) | (simp [*]; omega) | (simp [*]; intro h; omega)), rfl⟩
    · go_enter Try.func39, Try.ntmps39
      go_wp2_with fail
      go_ret
      exact ⟨ret_bool (by first | (simp [*]; done) | (simp [*]; omega) | (simp [*]; intro h; omega)), rfl⟩
  · go_enter Try.func39, Try.ntmps39
    go_wp2_with fail
    go_ret
    exact ⟨ret_bool (by first | (simp [*]; done) | (simp [*]; omega) | (simp [*]; intro h; omega)), rfl⟩
set_option maxHeartbeats 8000000 in
set_option maxRecDepth 10000 in
theorem rdMayChange (c : Ch) (w : World) : Calls Try.prog 23 #[.agg #[.int .i64 c.kd, .int .i64 c.zo, .int .i64 c.ep, .int .i64 c.mv, .string c.ky]] w fun e w' => e = .returned (.bool (decide (OkCh c))) ∧ Below w.heap.size w w' := by
  obtain ⟨kd, zo, ep, mv, ky⟩ := c
  show Calls Try.prog 23 #[.agg #[.int .i64 kd, .int .i64 zo, .int .i64 ep, .int .i64 mv, .string ky]] w _
  by_cases k1 : kd = 1
  case pos =>
    subst k1
    by_cases a1 : 1 ≤ ky.size
    case neg =>
      have hno : decide (OkCh ⟨1, zo, ep, mv, ky⟩) = false := decide_eq_false (fun h => by have := (OkCh_iff _).1 h; simp at this; omega)
      rw [hno]
      have ga1 : ¬ (1 : Int) ≤ (ky.size : Int) := by omega
      go_enter Try.func23, Try.ntmps23
      go_wp2_with (first | (go_at_call 39; refine (refKey _ _).mono ?_; rintro e w3 ⟨rfl, rfl⟩) | fail)
      all_goals go_ret
      all_goals exact ⟨ret_bool (by simp [*]), by ((repeat (first | (with_reducible exact Below.refl _ _) | (with_reducible assumption) | ((with_reducible refine b_set ?_ ?_); · (first | omega | (simp; done) | (simp; omega))) | ((with_reducible refine b_alloc ?_ ?_); · (first | omega | (simp; done) | (simp; omega))) | (with_reducible refine Below.drew ?_) | (with_reducible refine b_drewN ?_) | ((with_reducible refine b_call (by assumption) ?_ ?_); · (first | omega | (simp; done) | (simp; omega))))); done)⟩
    have ga1 : (1 : Int) ≤ (ky.size : Int) := by omega
    by_cases a2 : ky.size ≤ 16
    case neg =>
      have hno : decide (OkCh ⟨1, zo, ep, mv, ky⟩) = false := decide_eq_false (fun h => by have := (OkCh_iff _).1 h; simp at this; omega)
      rw [hno]
      have ga2 : ¬ (ky.size : Int) ≤ 16 := by omega
      go_enter Try.func23, Try.ntmps23
      go_wp2_with (first | (go_at_call 39; refine (refKey _ _).mono ?_; rintro e w3 ⟨rfl, rfl⟩) | fail)
      all_goals go_ret
      all_goals exact ⟨ret_bool (by simp [*]), by ((repeat (first | (with_reducible exact Below.refl _ _) | (with_reducible assumption) | ((with_reducible refine b_set ?_ ?_); · (first | omega | (simp; done) | (simp; omega))) | ((with_reducible refine b_alloc ?_ ?_); · (first | omega | (simp; done) | (simp; omega))) | (with_reducible refine Below.drew ?_) | (with_reducible refine b_drewN ?_) | ((with_reducible refine b_call (by assumption) ?_ ?_); · (first | omega | (simp; done) | (simp; omega))))); done)⟩
    have ga2 : (ky.size : Int) ≤ 16 := by omega
    by_cases z1 : 1 ≤ zo
    case neg =>
      have hno : decide (OkCh ⟨1, zo, ep, mv, ky⟩) = false := decide_eq_false (fun h => by have := (OkCh_iff _).1 h; simp at this; omega)
      rw [hno]
      go_enter Try.func23, Try.ntmps23
      go_wp2_with (first | (go_at_call 39; refine (refKey _ _).mono ?_; rintro e w3 ⟨rfl, rfl⟩) | fail)
      all_goals go_ret
      all_goals exact ⟨ret_bool (by simp [*]), by ((repeat (first | (with_reducible exact Below.refl _ _) | (with_reducible assumption) | ((with_reducible refine b_set ?_ ?_); · (first | omega | (simp; done) | (simp; omega))) | ((with_reducible refine b_alloc ?_ ?_); · (first | omega | (simp; done) | (simp; omega))) | (with_reducible refine Below.drew ?_) | (with_reducible refine b_drewN ?_) | ((with_reducible refine b_call (by assumption) ?_ ?_); · (first | omega | (simp; done) | (simp; omega))))); done)⟩
    by_cases z2 : zo ≤ 1099511627776
    case neg =>
      have hno : decide (OkCh ⟨1, zo, ep, mv, ky⟩) = false := decide_eq_false (fun h => by have := (OkCh_iff _).1 h; simp at this; omega)
      rw [hno]
      go_enter Try.func23, Try.ntmps23
      go_wp2_with (first | (go_at_call 39; refine (refKey _ _).mono ?_; rintro e w3 ⟨rfl, rfl⟩) | fail)
      all_goals go_ret
      all_goals exact ⟨ret_bool (by simp [*]), by ((repeat (first | (with_reducible exact Below.refl _ _) | (with_reducible assumption) | ((with_reducible refine b_set ?_ ?_); · (first | omega | (simp; done) | (simp; omega))) | ((with_reducible refine b_alloc ?_ ?_); · (first | omega | (simp; done) | (simp; omega))) | (with_reducible refine Below.drew ?_) | (with_reducible refine b_drewN ?_) | ((with_reducible refine b_call (by assumption) ?_ ?_); · (first | omega | (simp; done) | (simp; omega))))); done)⟩
    by_cases q1 : ep = 0
    case neg =>
      have hno : decide (OkCh ⟨1, zo, ep, mv, ky⟩) = false := decide_eq_false (fun h => by have := (OkCh_iff _).1 h; simp at this; omega)
      rw [hno]
      go_enter Try.func23, Try.ntmps23
      go_wp2_with (first | (go_at_call 39; refine (refKey _ _).mono ?_; rintro e w3 ⟨rfl, rfl⟩) | fail)
      all_goals go_ret
      all_goals exact ⟨ret_bool (by simp [*]), by ((repeat (first | (with_reducible exact Below.refl _ _) | (with_reducible assumption) | ((with_reducible refine b_set ?_ ?_); · (first | omega | (simp; done) | (simp; omega))) | ((with_reducible refine b_alloc ?_ ?_); · (first | omega | (simp; done) | (simp; omega))) | (with_reducible refine Below.drew ?_) | (with_reducible refine b_drewN ?_) | ((with_reducible refine b_call (by assumption) ?_ ?_); · (first | omega | (simp; done) | (simp; omega))))); done)⟩
    by_cases q2 : mv = 0
    case neg =>
      have hno : decide (OkCh ⟨1, zo, ep, mv, ky⟩) = false := decide_eq_false (fun h => by have := (OkCh_iff _).1 h; simp at this; omega)
      rw [hno]
      go_enter Try.func23, Try.ntmps23
      go_wp2_with (first | (go_at_call 39; refine (refKey _ _).mono ?_; rintro e w3 ⟨rfl, rfl⟩) | fail)
      all_goals go_ret
      all_goals exact ⟨ret_bool (by simp [*]), by ((repeat (first | (with_reducible exact Below.refl _ _) | (with_reducible assumption) | ((with_reducible refine b_set ?_ ?_); · (first | omega | (simp; done) | (simp; omega))) | ((with_reducible refine b_alloc ?_ ?_); · (first | omega | (simp; done) | (simp; omega))) | (with_reducible refine Below.drew ?_) | (with_reducible refine b_drewN ?_) | ((with_reducible refine b_call (by assumption) ?_ ?_); · (first | omega | (simp; done) | (simp; omega))))); done)⟩
    have hyes : decide (OkCh ⟨1, zo, ep, mv, ky⟩) = true := decide_eq_true ⟨⟨z1, z2⟩, (by show (1 : Int) ≤ 1 ∧ (1 : Int) ≤ 5; decide), ⟨fun _ => ⟨a1, a2⟩, fun h => absurd rfl h⟩, ⟨fun h => absurd h (by show ¬ ((1 : Int) = 3); decide), fun _ => q2⟩, ⟨fun h => by rcases h with h | h; exact absurd h (by show ¬ ((1 : Int) = 4); decide); exact absurd h (by show ¬ ((1 : Int) = 5); decide), fun _ _ => q1⟩⟩
    rw [hyes]
    go_enter Try.func23, Try.ntmps23
    go_wp2_with (first | (go_at_call 39; refine (refKey _ _).mono ?_; rintro e w3 ⟨rfl, rfl⟩) | fail)
    all_goals go_ret
    all_goals exact ⟨ret_bool (by simp [*]), by ((repeat (first | (with_reducible exact Below.refl _ _) | (with_reducible assumption) | ((with_reducible refine b_set ?_ ?_); · (first | omega | (simp; done) | (simp; omega))) | ((with_reducible refine b_alloc ?_ ?_); · (first | omega | (simp; done) | (simp; omega))) | (with_reducible refine Below.drew ?_) | (with_reducible refine b_drewN ?_) | ((with_reducible refine b_call (by assumption) ?_ ?_); · (first | omega | (simp; done) | (simp; omega))))); done)⟩
  by_cases k2 : kd = 2
  case pos =>
    subst k2
    by_cases z1 : 1 ≤ zo
    case neg =>
      have hno : decide (OkCh ⟨2, zo, ep, mv, ky⟩) = false := decide_eq_false (fun h => by have := (OkCh_iff _).1 h; simp at this; omega)
      rw [hno]
      go_enter Try.func23, Try.ntmps23
      go_wp2_with (first | (go_at_call 39; refine (refKey _ _).mono ?_; rintro e w3 ⟨rfl, rfl⟩) | fail)
      all_goals go_ret
      all_goals exact ⟨ret_bool (by simp [*]), by ((repeat (first | (with_reducible exact Below.refl _ _) | (with_reducible assumption) | ((with_reducible refine b_set ?_ ?_); · (first | omega | (simp; done) | (simp; omega))) | ((with_reducible refine b_alloc ?_ ?_); · (first | omega | (simp; done) | (simp; omega))) | (with_reducible refine Below.drew ?_) | (with_reducible refine b_drewN ?_) | ((with_reducible refine b_call (by assumption) ?_ ?_); · (first | omega | (simp; done) | (simp; omega))))); done)⟩
    by_cases z2 : zo ≤ 1099511627776
    case neg =>
      have hno : decide (OkCh ⟨2, zo, ep, mv, ky⟩) = false := decide_eq_false (fun h => by have := (OkCh_iff _).1 h; simp at this; omega)
      rw [hno]
      go_enter Try.func23, Try.ntmps23
      go_wp2_with (first | (go_at_call 39; refine (refKey _ _).mono ?_; rintro e w3 ⟨rfl, rfl⟩) | fail)
      all_goals go_ret
      all_goals exact ⟨ret_bool (by simp [*]), by ((repeat (first | (with_reducible exact Below.refl _ _) | (with_reducible assumption) | ((with_reducible refine b_set ?_ ?_); · (first | omega | (simp; done) | (simp; omega))) | ((with_reducible refine b_alloc ?_ ?_); · (first | omega | (simp; done) | (simp; omega))) | (with_reducible refine Below.drew ?_) | (with_reducible refine b_drewN ?_) | ((with_reducible refine b_call (by assumption) ?_ ?_); · (first | omega | (simp; done) | (simp; omega))))); done)⟩
    by_cases q1 : ep = 0
    case neg =>
      have hno : decide (OkCh ⟨2, zo, ep, mv, ky⟩) = false := decide_eq_false (fun h => by have := (OkCh_iff _).1 h; simp at this; omega)
      rw [hno]
      go_enter Try.func23, Try.ntmps23
      go_wp2_with (first | (go_at_call 39; refine (refKey _ _).mono ?_; rintro e w3 ⟨rfl, rfl⟩) | fail)
      all_goals go_ret
      all_goals exact ⟨ret_bool (by simp [*]), by ((repeat (first | (with_reducible exact Below.refl _ _) | (with_reducible assumption) | ((with_reducible refine b_set ?_ ?_); · (first | omega | (simp; done) | (simp; omega))) | ((with_reducible refine b_alloc ?_ ?_); · (first | omega | (simp; done) | (simp; omega))) | (with_reducible refine Below.drew ?_) | (with_reducible refine b_drewN ?_) | ((with_reducible refine b_call (by assumption) ?_ ?_); · (first | omega | (simp; done) | (simp; omega))))); done)⟩
    by_cases q2 : mv = 0
    case neg =>
      have hno : decide (OkCh ⟨2, zo, ep, mv, ky⟩) = false := decide_eq_false (fun h => by have := (OkCh_iff _).1 h; simp at this; omega)
      rw [hno]
      go_enter Try.func23, Try.ntmps23
      go_wp2_with (first | (go_at_call 39; refine (refKey _ _).mono ?_; rintro e w3 ⟨rfl, rfl⟩) | fail)
      all_goals go_ret
      all_goals exact ⟨ret_bool (by simp [*]), by ((repeat (first | (with_reducible exact Below.refl _ _) | (with_reducible assumption) | ((with_reducible refine b_set ?_ ?_); · (first | omega | (simp; done) | (simp; omega))) | ((with_reducible refine b_alloc ?_ ?_); · (first | omega | (simp; done) | (simp; omega))) | (with_reducible refine Below.drew ?_) | (with_reducible refine b_drewN ?_) | ((with_reducible refine b_call (by assumption) ?_ ?_); · (first | omega | (simp; done) | (simp; omega))))); done)⟩
    by_cases q3 : ky.size = 0
    case neg =>
      have hno : decide (OkCh ⟨2, zo, ep, mv, ky⟩) = false := decide_eq_false (fun h => q3 (((OkCh_iff _).1 h).2.2.1.2 (by show ¬ ((2 : Int) = 1); decide)))
      rw [hno]
      obtain ⟨n1, n2, n3, n4⟩ := nil_beq q3
      go_enter Try.func23, Try.ntmps23
      go_wp2_with (first | (go_at_call 39; refine (refKey _ _).mono ?_; rintro e w3 ⟨rfl, rfl⟩) | fail)
      all_goals go_ret
      all_goals exact ⟨ret_bool (by simp [*]), by ((repeat (first | (with_reducible exact Below.refl _ _) | (with_reducible assumption) | ((with_reducible refine b_set ?_ ?_); · (first | omega | (simp; done) | (simp; omega))) | ((with_reducible refine b_alloc ?_ ?_); · (first | omega | (simp; done) | (simp; omega))) | (with_reducible refine Below.drew ?_) | (with_reducible refine b_drewN ?_) | ((with_reducible refine b_call (by assumption) ?_ ?_); · (first | omega | (simp; done) | (simp; omega))))); done)⟩
    obtain rfl := nil_size.1 q3
    have hyes : decide (OkCh ⟨2, zo, ep, mv, ⟨#[]⟩⟩) = true := decide_eq_true ⟨⟨z1, z2⟩, (by show (1 : Int) ≤ 2 ∧ (2 : Int) ≤ 5; decide), ⟨fun h => absurd h (by show ¬ ((2 : Int) = 1); decide), fun _ => rfl⟩, ⟨fun h => absurd h (by show ¬ ((2 : Int) = 3); decide), fun _ => q2⟩, ⟨fun h => by rcases h with h | h; exact absurd h (by show ¬ ((2 : Int) = 4); decide); exact absurd h (by show ¬ ((2 : Int) = 5); decide), fun _ _ => q1⟩⟩
    rw [hyes]
    go_enter Try.func23, Try.ntmps23
    go_wp2_with (first | (go_at_call 39; refine (refKey _ _).mono ?_; rintro e w3 ⟨rfl, rfl⟩) | fail)
    all_goals go_ret
    all_goals exact ⟨ret_bool (by simp [*]), by ((repeat (first | (with_reducible exact Below.refl _ _) | (with_reducible assumption) | ((with_reducible refine b_set ?_ ?_); · (first | omega | (simp; done) | (simp; omega))) | ((with_reducible refine b_alloc ?_ ?_); · (first | omega | (simp; done) | (simp; omega))) | (with_reducible refine Below.drew ?_) | (with_reducible refine b_drewN ?_) | ((with_reducible refine b_call (by assumption) ?_ ?_); · (first | omega | (simp; done) | (simp; omega))))); done)⟩
  by_cases k3 : kd = 3
  case pos =>
    subst k3
    by_cases a1 : 1 ≤ mv
    case neg =>
      have hno : decide (OkCh ⟨3, zo, ep, mv, ky⟩) = false := decide_eq_false (fun h => by have := (OkCh_iff _).1 h; simp at this; omega)
      rw [hno]
      go_enter Try.func23, Try.ntmps23
      go_wp2_with (first | (go_at_call 39; refine (refKey _ _).mono ?_; rintro e w3 ⟨rfl, rfl⟩) | fail)
      all_goals go_ret
      all_goals exact ⟨ret_bool (by simp [*]), by ((repeat (first | (with_reducible exact Below.refl _ _) | (with_reducible assumption) | ((with_reducible refine b_set ?_ ?_); · (first | omega | (simp; done) | (simp; omega))) | ((with_reducible refine b_alloc ?_ ?_); · (first | omega | (simp; done) | (simp; omega))) | (with_reducible refine Below.drew ?_) | (with_reducible refine b_drewN ?_) | ((with_reducible refine b_call (by assumption) ?_ ?_); · (first | omega | (simp; done) | (simp; omega))))); done)⟩
    by_cases a2 : mv ≤ 1048576
    case neg =>
      have hno : decide (OkCh ⟨3, zo, ep, mv, ky⟩) = false := decide_eq_false (fun h => by have := (OkCh_iff _).1 h; simp at this; omega)
      rw [hno]
      go_enter Try.func23, Try.ntmps23
      go_wp2_with (first | (go_at_call 39; refine (refKey _ _).mono ?_; rintro e w3 ⟨rfl, rfl⟩) | fail)
      all_goals go_ret
      all_goals exact ⟨ret_bool (by simp [*]), by ((repeat (first | (with_reducible exact Below.refl _ _) | (with_reducible assumption) | ((with_reducible refine b_set ?_ ?_); · (first | omega | (simp; done) | (simp; omega))) | ((with_reducible refine b_alloc ?_ ?_); · (first | omega | (simp; done) | (simp; omega))) | (with_reducible refine Below.drew ?_) | (with_reducible refine b_drewN ?_) | ((with_reducible refine b_call (by assumption) ?_ ?_); · (first | omega | (simp; done) | (simp; omega))))); done)⟩
    by_cases z1 : 1 ≤ zo
    case neg =>
      have hno : decide (OkCh ⟨3, zo, ep, mv, ky⟩) = false := decide_eq_false (fun h => by have := (OkCh_iff _).1 h; simp at this; omega)
      rw [hno]
      go_enter Try.func23, Try.ntmps23
      go_wp2_with (first | (go_at_call 39; refine (refKey _ _).mono ?_; rintro e w3 ⟨rfl, rfl⟩) | fail)
      all_goals go_ret
      all_goals exact ⟨ret_bool (by simp [*]), by ((repeat (first | (with_reducible exact Below.refl _ _) | (with_reducible assumption) | ((with_reducible refine b_set ?_ ?_); · (first | omega | (simp; done) | (simp; omega))) | ((with_reducible refine b_alloc ?_ ?_); · (first | omega | (simp; done) | (simp; omega))) | (with_reducible refine Below.drew ?_) | (with_reducible refine b_drewN ?_) | ((with_reducible refine b_call (by assumption) ?_ ?_); · (first | omega | (simp; done) | (simp; omega))))); done)⟩
    by_cases z2 : zo ≤ 1099511627776
    case neg =>
      have hno : decide (OkCh ⟨3, zo, ep, mv, ky⟩) = false := decide_eq_false (fun h => by have := (OkCh_iff _).1 h; simp at this; omega)
      rw [hno]
      go_enter Try.func23, Try.ntmps23
      go_wp2_with (first | (go_at_call 39; refine (refKey _ _).mono ?_; rintro e w3 ⟨rfl, rfl⟩) | fail)
      all_goals go_ret
      all_goals exact ⟨ret_bool (by simp [*]), by ((repeat (first | (with_reducible exact Below.refl _ _) | (with_reducible assumption) | ((with_reducible refine b_set ?_ ?_); · (first | omega | (simp; done) | (simp; omega))) | ((with_reducible refine b_alloc ?_ ?_); · (first | omega | (simp; done) | (simp; omega))) | (with_reducible refine Below.drew ?_) | (with_reducible refine b_drewN ?_) | ((with_reducible refine b_call (by assumption) ?_ ?_); · (first | omega | (simp; done) | (simp; omega))))); done)⟩
    by_cases q1 : ep = 0
    case neg =>
      have hno : decide (OkCh ⟨3, zo, ep, mv, ky⟩) = false := decide_eq_false (fun h => by have := (OkCh_iff _).1 h; simp at this; omega)
      rw [hno]
      go_enter Try.func23, Try.ntmps23
      go_wp2_with (first | (go_at_call 39; refine (refKey _ _).mono ?_; rintro e w3 ⟨rfl, rfl⟩) | fail)
      all_goals go_ret
      all_goals exact ⟨ret_bool (by simp [*]), by ((repeat (first | (with_reducible exact Below.refl _ _) | (with_reducible assumption) | ((with_reducible refine b_set ?_ ?_); · (first | omega | (simp; done) | (simp; omega))) | ((with_reducible refine b_alloc ?_ ?_); · (first | omega | (simp; done) | (simp; omega))) | (with_reducible refine Below.drew ?_) | (with_reducible refine b_drewN ?_) | ((with_reducible refine b_call (by assumption) ?_ ?_); · (first | omega | (simp; done) | (simp; omega))))); done)⟩
    by_cases q3 : ky.size = 0
    case neg =>
      have hno : decide (OkCh ⟨3, zo, ep, mv, ky⟩) = false := decide_eq_false (fun h => q3 (((OkCh_iff _).1 h).2.2.1.2 (by show ¬ ((3 : Int) = 1); decide)))
      rw [hno]
      obtain ⟨n1, n2, n3, n4⟩ := nil_beq q3
      go_enter Try.func23, Try.ntmps23
      go_wp2_with (first | (go_at_call 39; refine (refKey _ _).mono ?_; rintro e w3 ⟨rfl, rfl⟩) | fail)
      all_goals go_ret
      all_goals exact ⟨ret_bool (by simp [*]), by ((repeat (first | (with_reducible exact Below.refl _ _) | (with_reducible assumption) | ((with_reducible refine b_set ?_ ?_); · (first | omega | (simp; done) | (simp; omega))) | ((with_reducible refine b_alloc ?_ ?_); · (first | omega | (simp; done) | (simp; omega))) | (with_reducible refine Below.drew ?_) | (with_reducible refine b_drewN ?_) | ((with_reducible refine b_call (by assumption) ?_ ?_); · (first | omega | (simp; done) | (simp; omega))))); done)⟩
    obtain rfl := nil_size.1 q3
    have hyes : decide (OkCh ⟨3, zo, ep, mv, ⟨#[]⟩⟩) = true := decide_eq_true ⟨⟨z1, z2⟩, (by show (1 : Int) ≤ 3 ∧ (3 : Int) ≤ 5; decide), ⟨fun h => absurd h (by show ¬ ((3 : Int) = 1); decide), fun _ => rfl⟩, ⟨fun _ => ⟨a1, a2⟩, fun h => absurd rfl h⟩, ⟨fun h => by rcases h with h | h; exact absurd h (by show ¬ ((3 : Int) = 4); decide); exact absurd h (by show ¬ ((3 : Int) = 5); decide), fun _ _ => q1⟩⟩
    rw [hyes]
    go_enter Try.func23, Try.ntmps23
    go_wp2_with (first | (go_at_call 39; refine (refKey _ _).mono ?_; rintro e w3 ⟨rfl, rfl⟩) | fail)
    all_goals go_ret
    all_goals exact ⟨ret_bool (by simp [*]), by ((repeat (first | (with_reducible exact Below.refl _ _) | (with_reducible assumption) | ((with_reducible refine b_set ?_ ?_); · (first | omega | (simp; done) | (simp; omega))) | ((with_reducible refine b_alloc ?_ ?_); · (first | omega | (simp; done) | (simp; omega))) | (with_reducible refine Below.drew ?_) | (with_reducible refine b_drewN ?_) | ((with_reducible refine b_call (by assumption) ?_ ?_); · (first | omega | (simp; done) | (simp; omega))))); done)⟩
  by_cases k4 : kd = 4
  case pos =>
    subst k4
    by_cases a1 : 1 ≤ ep
    case neg =>
      have hno : decide (OkCh ⟨4, zo, ep, mv, ky⟩) = false := decide_eq_false (fun h => by have := (OkCh_iff _).1 h; simp at this; omega)
      rw [hno]
      go_enter Try.func23, Try.ntmps23
      go_wp2_with (first | (go_at_call 39; refine (refKey _ _).mono ?_; rintro e w3 ⟨rfl, rfl⟩) | fail)
      all_goals go_ret
      all_goals exact ⟨ret_bool (by simp [*]), by ((repeat (first | (with_reducible exact Below.refl _ _) | (with_reducible assumption) | ((with_reducible refine b_set ?_ ?_); · (first | omega | (simp; done) | (simp; omega))) | ((with_reducible refine b_alloc ?_ ?_); · (first | omega | (simp; done) | (simp; omega))) | (with_reducible refine Below.drew ?_) | (with_reducible refine b_drewN ?_) | ((with_reducible refine b_call (by assumption) ?_ ?_); · (first | omega | (simp; done) | (simp; omega))))); done)⟩
    by_cases a2 : ep ≤ 1099511627776
    case neg =>
      have hno : decide (OkCh ⟨4, zo, ep, mv, ky⟩) = false := decide_eq_false (fun h => by have := (OkCh_iff _).1 h; simp at this; omega)
      rw [hno]
      go_enter Try.func23, Try.ntmps23
      go_wp2_with (first | (go_at_call 39; refine (refKey _ _).mono ?_; rintro e w3 ⟨rfl, rfl⟩) | fail)
      all_goals go_ret
      all_goals exact ⟨ret_bool (by simp [*]), by ((repeat (first | (with_reducible exact Below.refl _ _) | (with_reducible assumption) | ((with_reducible refine b_set ?_ ?_); · (first | omega | (simp; done) | (simp; omega))) | ((with_reducible refine b_alloc ?_ ?_); · (first | omega | (simp; done) | (simp; omega))) | (with_reducible refine Below.drew ?_) | (with_reducible refine b_drewN ?_) | ((with_reducible refine b_call (by assumption) ?_ ?_); · (first | omega | (simp; done) | (simp; omega))))); done)⟩
    by_cases z1 : 1 ≤ zo
    case neg =>
      have hno : decide (OkCh ⟨4, zo, ep, mv, ky⟩) = false := decide_eq_false (fun h => by have := (OkCh_iff _).1 h; simp at this; omega)
      rw [hno]
      go_enter Try.func23, Try.ntmps23
      go_wp2_with (first | (go_at_call 39; refine (refKey _ _).mono ?_; rintro e w3 ⟨rfl, rfl⟩) | fail)
      all_goals go_ret
      all_goals exact ⟨ret_bool (by simp [*]), by ((repeat (first | (with_reducible exact Below.refl _ _) | (with_reducible assumption) | ((with_reducible refine b_set ?_ ?_); · (first | omega | (simp; done) | (simp; omega))) | ((with_reducible refine b_alloc ?_ ?_); · (first | omega | (simp; done) | (simp; omega))) | (with_reducible refine Below.drew ?_) | (with_reducible refine b_drewN ?_) | ((with_reducible refine b_call (by assumption) ?_ ?_); · (first | omega | (simp; done) | (simp; omega))))); done)⟩
    by_cases z2 : zo ≤ 1099511627776
    case neg =>
      have hno : decide (OkCh ⟨4, zo, ep, mv, ky⟩) = false := decide_eq_false (fun h => by have := (OkCh_iff _).1 h; simp at this; omega)
      rw [hno]
      go_enter Try.func23, Try.ntmps23
      go_wp2_with (first | (go_at_call 39; refine (refKey _ _).mono ?_; rintro e w3 ⟨rfl, rfl⟩) | fail)
      all_goals go_ret
      all_goals exact ⟨ret_bool (by simp [*]), by ((repeat (first | (with_reducible exact Below.refl _ _) | (with_reducible assumption) | ((with_reducible refine b_set ?_ ?_); · (first | omega | (simp; done) | (simp; omega))) | ((with_reducible refine b_alloc ?_ ?_); · (first | omega | (simp; done) | (simp; omega))) | (with_reducible refine Below.drew ?_) | (with_reducible refine b_drewN ?_) | ((with_reducible refine b_call (by assumption) ?_ ?_); · (first | omega | (simp; done) | (simp; omega))))); done)⟩
    by_cases q1 : mv = 0
    case neg =>
      have hno : decide (OkCh ⟨4, zo, ep, mv, ky⟩) = false := decide_eq_false (fun h => by have := (OkCh_iff _).1 h; simp at this; omega)
      rw [hno]
      go_enter Try.func23, Try.ntmps23
      go_wp2_with (first | (go_at_call 39; refine (refKey _ _).mono ?_; rintro e w3 ⟨rfl, rfl⟩) | fail)
      all_goals go_ret
      all_goals exact ⟨ret_bool (by simp [*]), by ((repeat (first | (with_reducible exact Below.refl _ _) | (with_reducible assumption) | ((with_reducible refine b_set ?_ ?_); · (first | omega | (simp; done) | (simp; omega))) | ((with_reducible refine b_alloc ?_ ?_); · (first | omega | (simp; done) | (simp; omega))) | (with_reducible refine Below.drew ?_) | (with_reducible refine b_drewN ?_) | ((with_reducible refine b_call (by assumption) ?_ ?_); · (first | omega | (simp; done) | (simp; omega))))); done)⟩
    by_cases q3 : ky.size = 0
    case neg =>
      have hno : decide (OkCh ⟨4, zo, ep, mv, ky⟩) = false := decide_eq_false (fun h => q3 (((OkCh_iff _).1 h).2.2.1.2 (by show ¬ ((4 : Int) = 1); decide)))
      rw [hno]
      obtain ⟨n1, n2, n3, n4⟩ := nil_beq q3
      go_enter Try.func23, Try.ntmps23
      go_wp2_with (first | (go_at_call 39; refine (refKey _ _).mono ?_; rintro e w3 ⟨rfl, rfl⟩) | fail)
      all_goals go_ret
      all_goals exact ⟨ret_bool (by simp [*]), by ((repeat (first | (with_reducible exact Below.refl _ _) | (with_reducible assumption) | ((with_reducible refine b_set ?_ ?_); · (first | omega | (simp; done) | (simp; omega))) | ((with_reducible refine b_alloc ?_ ?_); · (first | omega | (simp; done) | (simp; omega))) | (with_reducible refine Below.drew ?_) | (with_reducible refine b_drewN ?_) | ((with_reducible refine b_call (by assumption) ?_ ?_); · (first | omega | (simp; done) | (simp; omega))))); done)⟩
    obtain rfl := nil_size.1 q3
    have hyes : decide (OkCh ⟨4, zo, ep, mv, ⟨#[]⟩⟩) = true := decide_eq_true ⟨⟨z1, z2⟩, (by show (1 : Int) ≤ 4 ∧ (4 : Int) ≤ 5; decide), ⟨fun h => absurd h (by show ¬ ((4 : Int) = 1); decide), fun _ => rfl⟩, ⟨fun h => absurd h (by show ¬ ((4 : Int) = 3); decide), fun _ => q1⟩, ⟨fun _ => ⟨a1, a2⟩, fun h1 h2 => absurd rfl h1⟩⟩
    rw [hyes]
    go_enter Try.func23, Try.ntmps23
    go_wp2_with (first | (go_at_call 39; refine (refKey _ _).mono ?_; rintro e w3 ⟨rfl, rfl⟩) | fail)
    all_goals go_ret
    all_goals exact ⟨ret_bool (by simp [*]), by ((repeat (first | (with_reducible exact Below.refl _ _) | (with_reducible assumption) | ((with_reducible refine b_set ?_ ?_); · (first | omega | (simp; done) | (simp; omega))) | ((with_reducible refine b_alloc ?_ ?_); · (first | omega | (simp; done) | (simp; omega))) | (with_reducible refine Below.drew ?_) | (with_reducible refine b_drewN ?_) | ((with_reducible refine b_call (by assumption) ?_ ?_); · (first | omega | (simp; done) | (simp; omega))))); done)⟩
  by_cases k5 : kd = 5
  case pos =>
    subst k5
    by_cases a1 : 1 ≤ ep
    case neg =>
      have hno : decide (OkCh ⟨5, zo, ep, mv, ky⟩) = false := decide_eq_false (fun h => by have := (OkCh_iff _).1 h; simp at this; omega)
      rw [hno]
      go_enter Try.func23, Try.ntmps23
      go_wp2_with (first | (go_at_call 39; refine (refKey _ _).mono ?_; rintro e w3 ⟨rfl, rfl⟩) | fail)
      all_goals go_ret
      all_goals exact ⟨ret_bool (by simp [*]), by ((repeat (first | (with_reducible exact Below.refl _ _) | (with_reducible assumption) | ((with_reducible refine b_set ?_ ?_); · (first | omega | (simp; done) | (simp; omega))) | ((with_reducible refine b_alloc ?_ ?_); · (first | omega | (simp; done) | (simp; omega))) | (with_reducible refine Below.drew ?_) | (with_reducible refine b_drewN ?_) | ((with_reducible refine b_call (by assumption) ?_ ?_); · (first | omega | (simp; done) | (simp; omega))))); done)⟩
    by_cases a2 : ep ≤ 1099511627776
    case neg =>
      have hno : decide (OkCh ⟨5, zo, ep, mv, ky⟩) = false := decide_eq_false (fun h => by have := (OkCh_iff _).1 h; simp at this; omega)
      rw [hno]
      go_enter Try.func23, Try.ntmps23
      go_wp2_with (first | (go_at_call 39; refine (refKey _ _).mono ?_; rintro e w3 ⟨rfl, rfl⟩) | fail)
      all_goals go_ret
      all_goals exact ⟨ret_bool (by simp [*]), by ((repeat (first | (with_reducible exact Below.refl _ _) | (with_reducible assumption) | ((with_reducible refine b_set ?_ ?_); · (first | omega | (simp; done) | (simp; omega))) | ((with_reducible refine b_alloc ?_ ?_); · (first | omega | (simp; done) | (simp; omega))) | (with_reducible refine Below.drew ?_) | (with_reducible refine b_drewN ?_) | ((with_reducible refine b_call (by assumption) ?_ ?_); · (first | omega | (simp; done) | (simp; omega))))); done)⟩
    by_cases z1 : 1 ≤ zo
    case neg =>
      have hno : decide (OkCh ⟨5, zo, ep, mv, ky⟩) = false := decide_eq_false (fun h => by have := (OkCh_iff _).1 h; simp at this; omega)
      rw [hno]
      go_enter Try.func23, Try.ntmps23
      go_wp2_with (first | (go_at_call 39; refine (refKey _ _).mono ?_; rintro e w3 ⟨rfl, rfl⟩) | fail)
      all_goals go_ret
      all_goals exact ⟨ret_bool (by simp [*]), by ((repeat (first | (with_reducible exact Below.refl _ _) | (with_reducible assumption) | ((with_reducible refine b_set ?_ ?_); · (first | omega | (simp; done) | (simp; omega))) | ((with_reducible refine b_alloc ?_ ?_); · (first | omega | (simp; done) | (simp; omega))) | (with_reducible refine Below.drew ?_) | (with_reducible refine b_drewN ?_) | ((with_reducible refine b_call (by assumption) ?_ ?_); · (first | omega | (simp; done) | (simp; omega))))); done)⟩
    by_cases z2 : zo ≤ 1099511627776
    case neg =>
      have hno : decide (OkCh ⟨5, zo, ep, mv, ky⟩) = false := decide_eq_false (fun h => by have := (OkCh_iff _).1 h; simp at this; omega)
      rw [hno]
      go_enter Try.func23, Try.ntmps23
      go_wp2_with (first | (go_at_call 39; refine (refKey _ _).mono ?_; rintro e w3 ⟨rfl, rfl⟩) | fail)
      all_goals go_ret
      all_goals exact ⟨ret_bool (by simp [*]), by ((repeat (first | (with_reducible exact Below.refl _ _) | (with_reducible assumption) | ((with_reducible refine b_set ?_ ?_); · (first | omega | (simp; done) | (simp; omega))) | ((with_reducible refine b_alloc ?_ ?_); · (first | omega | (simp; done) | (simp; omega))) | (with_reducible refine Below.drew ?_) | (with_reducible refine b_drewN ?_) | ((with_reducible refine b_call (by assumption) ?_ ?_); · (first | omega | (simp; done) | (simp; omega))))); done)⟩
    by_cases q1 : mv = 0
    case neg =>
      have hno : decide (OkCh ⟨5, zo, ep, mv, ky⟩) = false := decide_eq_false (fun h => by have := (OkCh_iff _).1 h; simp at this; omega)
      rw [hno]
      go_enter Try.func23, Try.ntmps23
      go_wp2_with (first | (go_at_call 39; refine (refKey _ _).mono ?_; rintro e w3 ⟨rfl, rfl⟩) | fail)
      all_goals go_ret
      all_goals exact ⟨ret_bool (by simp [*]), by ((repeat (first | (with_reducible exact Below.refl _ _) | (with_reducible assumption) | ((with_reducible refine b_set ?_ ?_); · (first | omega | (simp; done) | (simp; omega))) | ((with_reducible refine b_alloc ?_ ?_); · (first | omega | (simp; done) | (simp; omega))) | (with_reducible refine Below.drew ?_) | (with_reducible refine b_drewN ?_) | ((with_reducible refine b_call (by assumption) ?_ ?_); · (first | omega | (simp; done) | (simp; omega))))); done)⟩
    by_cases q3 : ky.size = 0
    case neg =>
      have hno : decide (OkCh ⟨5, zo, ep, mv, ky⟩) = false := decide_eq_false (fun h => q3 (((OkCh_iff _).1 h).2.2.1.2 (by show ¬ ((5 : Int) = 1); decide)))
      rw [hno]
      obtain ⟨n1, n2, n3, n4⟩ := nil_beq q3
      go_enter Try.func23, Try.ntmps23
      go_wp2_with (first | (go_at_call 39; refine (refKey _ _).mono ?_; rintro e w3 ⟨rfl, rfl⟩) | fail)
      all_goals go_ret
      all_goals exact ⟨ret_bool (by simp [*]), by ((repeat (first | (with_reducible exact Below.refl _ _) | (with_reducible assumption) | ((with_reducible refine b_set ?_ ?_); · (first | omega | (simp; done) | (simp; omega))) | ((with_reducible refine b_alloc ?_ ?_); · (first | omega | (simp; done) | (simp; omega))) | (with_reducible refine Below.drew ?_) | (with_reducible refine b_drewN ?_) | ((with_reducible refine b_call (by assumption) ?_ ?_); · (first | omega | (simp; done) | (simp; omega))))); done)⟩
    obtain rfl := nil_size.1 q3
    have hyes : decide (OkCh ⟨5, zo, ep, mv, ⟨#[]⟩⟩) = true := decide_eq_true ⟨⟨z1, z2⟩, (by show (1 : Int) ≤ 5 ∧ (5 : Int) ≤ 5; decide), ⟨fun h => absurd h (by show ¬ ((5 : Int) = 1); decide), fun _ => rfl⟩, ⟨fun h => absurd h (by show ¬ ((5 : Int) = 3); decide), fun _ => q1⟩, ⟨fun _ => ⟨a1, a2⟩, fun h1 h2 => absurd rfl h2⟩⟩
    rw [hyes]
    go_enter Try.func23, Try.ntmps23
    go_wp2_with (first | (go_at_call 39; refine (refKey _ _).mono ?_; rintro e w3 ⟨rfl, rfl⟩) | fail)
    all_goals go_ret
    all_goals exact ⟨ret_bool (by simp [*]), by ((repeat (first | (with_reducible exact Below.refl _ _) | (with_reducible assumption) | ((with_reducible refine b_set ?_ ?_); · (first | omega | (simp; done) | (simp; omega))) | ((with_reducible refine b_alloc ?_ ?_); · (first | omega | (simp; done) | (simp; omega))) | (with_reducible refine Below.drew ?_) | (with_reducible refine b_drewN ?_) | ((with_reducible refine b_call (by assumption) ?_ ?_); · (first | omega | (simp; done) | (simp; omega))))); done)⟩
  have hno : decide (OkCh ⟨kd, zo, ep, mv, ky⟩) = false := decide_eq_false (fun h => by have := (OkCh_iff _).1 h; simp at this; omega)
  rw [hno]
  go_enter Try.func23, Try.ntmps23
  go_wp2_with (first | (go_at_call 39; refine (refKey _ _).mono ?_; rintro e w3 ⟨rfl, rfl⟩) | fail)
  all_goals go_ret
  all_goals exact ⟨ret_bool (by simp [*]), by ((repeat (first | (with_reducible exact Below.refl _ _) | (with_reducible assumption) | ((with_reducible refine b_set ?_ ?_); · (first | omega | (simp; done) | (simp; omega))) | ((with_reducible refine b_alloc ?_ ?_); · (first | omega | (simp; done) | (simp; omega))) | (with_reducible refine Below.drew ?_) | (with_reducible refine b_drewN ?_) | ((with_reducible refine b_call (by assumption) ?_ ?_); · (first | omega | (simp; done) | (simp; omega))))); done)⟩
end Go.Proofs.Ytepjehcmiofehaa
