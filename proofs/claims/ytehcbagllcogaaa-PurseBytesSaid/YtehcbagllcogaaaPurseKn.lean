/- What purse.Less, Sub and satrapylaw8.known return. -/
import Derived.Test.YtehcbagllcogaaaPurseA
import Derived.Test.YtehcbagllcogaaaItemsEq
namespace Go.Proofs.Ytehcbagllcogaaa
open Go.RowKit
set_option linter.unusedVariables false
set_option linter.unusedSimpArgs false

def lessP (a b c d e f g h : Int) : Bool := decide (a < e) || decide (b < f) || decide (c < g) || decide (d < h)

set_option maxHeartbeats 1000000 in
theorem purseLess (a b c d e f g h : Int) (w : World) :
    Calls Try.prog 29 #[.agg #[.int .i64 a, .int .i64 b, .int .i64 c, .int .i64 d], .agg #[.int .i64 e, .int .i64 f, .int .i64 g, .int .i64 h]] w fun z w' => z = .returned (.bool (lessP a b c d e f g h)) ∧ Below w.heap.size w w' := by
  have i0 : ∀ w, (Instr.index 23 (.agg #[.int .i64 e, .int .i64 f, .int .i64 g, .int .i64 h]) (.int .i64 0)).run Try.prog w = .ok (.int .i64 (e)) w := fun _ => by kernel_rfl
  have i1 : ∀ w, (Instr.index 23 (.agg #[.int .i64 e, .int .i64 f, .int .i64 g, .int .i64 h]) (.int .i64 1)).run Try.prog w = .ok (.int .i64 (f)) w := fun _ => by kernel_rfl
  have i2 : ∀ w, (Instr.index 23 (.agg #[.int .i64 e, .int .i64 f, .int .i64 g, .int .i64 h]) (.int .i64 2)).run Try.prog w = .ok (.int .i64 (g)) w := fun _ => by kernel_rfl
  have i3 : ∀ w, (Instr.index 23 (.agg #[.int .i64 e, .int .i64 f, .int .i64 g, .int .i64 h]) (.int .i64 3)).run Try.prog w = .ok (.int .i64 (h)) w := fun _ => by kernel_rfl
  go_enter Try.func29, Try.ntmps29
  go_wp2_with fail
  refine wp_loop_rounds 5 ?_; rw [rounds_succ]
  by_cases l0 : a < e
  · go_wp2_with fail
    go_ret
    exact ⟨ret_bool (by simp [lessP, l0]), by ((repeat (first | (with_reducible exact Below.refl _ _) | (with_reducible assumption) | ((with_reducible refine b_set ?_ ?_); · (first | omega | (simp; done) | (simp; omega))) | ((with_reducible refine b_alloc ?_ ?_); · (first | omega | (simp; done) | (simp; omega))) | (with_reducible refine Below.drew ?_) | (with_reducible refine b_drewN ?_) | ((with_reducible refine b_call (by assumption) ?_ ?_); · (first | omega | (simp; done) | (simp; omega))))); done)⟩
  go_wp2_with fail
  rw [rounds_succ]
  by_cases l1 : b < f
  · go_wp2_with fail
    go_ret
    exact ⟨ret_bool (by simp [lessP, l1]), by ((repeat (first | (with_reducible exact Below.refl _ _) | (with_reducible assumption) | ((with_reducible refine b_set ?_ ?_); · (first | omega | (simp; done) | (simp; omega))) | ((with_reducible refine b_alloc ?_ ?_); · (first | omega | (simp; done) | (simp; omega))) | (with_reducible refine Below.drew ?_) | (with_reducible refine b_drewN ?_) | ((with_reducible refine b_call (by assumption) ?_ ?_); · (first | omega | (simp; done) | (simp; omega))))); done)⟩
  go_wp2_with fail
  rw [rounds_succ]
  by_cases l2 : c < g
  · go_wp2_with fail
    go_ret
    exact ⟨ret_bool (by simp [lessP, l2]), by ((repeat (first | (with_reducible exact Below.refl _ _) | (with_reducible assumption) | ((with_reducible refine b_set ?_ ?_); · (first | omega | (simp; done) | (simp; omega))) | ((with_reducible refine b_alloc ?_ ?_); · (first | omega | (simp; done) | (simp; omega))) | (with_reducible refine Below.drew ?_) | (with_reducible refine b_drewN ?_) | ((with_reducible refine b_call (by assumption) ?_ ?_); · (first | omega | (simp; done) | (simp; omega))))); done)⟩
  go_wp2_with fail
  rw [rounds_succ]
  by_cases l3 : d < h
  · go_wp2_with fail
    go_ret
    exact ⟨ret_bool (by simp [lessP, l3]), by ((repeat (first | (with_reducible exact Below.refl _ _) | (with_reducible assumption) | ((with_reducible refine b_set ?_ ?_); · (first | omega | (simp; done) | (simp; omega))) | ((with_reducible refine b_alloc ?_ ?_); · (first | omega | (simp; done) | (simp; omega))) | (with_reducible refine Below.drew ?_) | (with_reducible refine b_drewN ?_) | ((with_reducible refine b_call (by assumption) ?_ ?_); · (first | omega | (simp; done) | (simp; omega))))); done)⟩
  go_wp2_with fail
  rw [rounds_succ]
  go_wp2_with fail
  go_ret
  exact ⟨ret_bool (by simp only [lessP]; simp; omega), by ((repeat (first | (with_reducible exact Below.refl _ _) | (with_reducible assumption) | ((with_reducible refine b_set ?_ ?_); · (first | omega | (simp; done) | (simp; omega))) | ((with_reducible refine b_alloc ?_ ?_); · (first | omega | (simp; done) | (simp; omega))) | (with_reducible refine Below.drew ?_) | (with_reducible refine b_drewN ?_) | ((with_reducible refine b_call (by assumption) ?_ ?_); · (first | omega | (simp; done) | (simp; omega))))); done)⟩

theorem isP_iff {a b c d : Int} : isP a b c d = true ↔ (0 ≤ a ∧ a ≤ 1152921504606846976) ∧ (0 ≤ b ∧ b ≤ 1152921504606846976) ∧ (0 ≤ c ∧ c ≤ 1152921504606846976) ∧ (0 ≤ d ∧ d ≤ 1152921504606846976) := by
  unfold isP; simp only [Bool.and_eq_true, heldB_iff]; omega
theorem lessP_iff {a b c d e f g h : Int} : lessP a b c d e f g h = false ↔ e ≤ a ∧ f ≤ b ∧ g ≤ c ∧ h ≤ d := by
  unfold lessP; simp; omega

set_option maxHeartbeats 1000000 in
theorem purseSub_3 (a b c d e f g h : Int) (w : World) (h1 : isP a b c d = true) (h2 : isP e f g h = true) (h3 : lessP a b c d e f g h = false) :
    Calls Try.prog 20 #[.agg #[.int .i64 a, .int .i64 b, .int .i64 c, .int .i64 d], .agg #[.int .i64 e, .int .i64 f, .int .i64 g, .int .i64 h]] w fun z w' => z = .returned (.tuple #[.agg #[.int .i64 (a - e), .int .i64 (b - f), .int .i64 (c - g), .int .i64 (d - h)], .bool true]) ∧ Below w.heap.size w w' := by
  obtain ⟨⟨a1, a2⟩, ⟨b1, b2⟩, ⟨c1, c2⟩, ⟨d1, d2⟩⟩ := isP_iff.1 h1
  obtain ⟨⟨e1, e2⟩, ⟨f1, f2⟩, ⟨g1, g2⟩, ⟨p1, p2⟩⟩ := isP_iff.1 h2
  obtain ⟨l1, l2, l3, l4⟩ := lessP_iff.1 h3
  have i0 : ∀ w, (Instr.index 23 (.agg #[.int .i64 e, .int .i64 f, .int .i64 g, .int .i64 h]) (.int .i64 0)).run Try.prog w = .ok (.int .i64 (e)) w := fun _ => by kernel_rfl
  have i1 : ∀ w, (Instr.index 23 (.agg #[.int .i64 e, .int .i64 f, .int .i64 g, .int .i64 h]) (.int .i64 1)).run Try.prog w = .ok (.int .i64 (f)) w := fun _ => by kernel_rfl
  have i2 : ∀ w, (Instr.index 23 (.agg #[.int .i64 e, .int .i64 f, .int .i64 g, .int .i64 h]) (.int .i64 2)).run Try.prog w = .ok (.int .i64 (g)) w := fun _ => by kernel_rfl
  have i3 : ∀ w, (Instr.index 23 (.agg #[.int .i64 e, .int .i64 f, .int .i64 g, .int .i64 h]) (.int .i64 3)).run Try.prog w = .ok (.int .i64 (h)) w := fun _ => by kernel_rfl
  go_enter Try.func20, Try.ntmps20
  go_wp2_with (first
    | (go_at_call 14; refine (purseIs _ _ _ _ _).mono ?_; rintro z w' ⟨rfl, hb⟩; have hs := hb.size; (try simp at hs); obtain ⟨hc, hf⟩ := bcell hb)
    | (go_at_call 29; refine (purseLess _ _ _ _ _ _ _ _ _).mono ?_; rintro z w' ⟨rfl, hb⟩; have hs := hb.size; (try simp at hs); obtain ⟨hc, hf⟩ := bcell hb))
  refine wp_loop_rounds 5 ?_; rw [rounds_succ]
  go_wp2_with fail
  rw [rounds_succ]
  go_wp2_with fail
  rw [rounds_succ]
  go_wp2_with fail
  rw [rounds_succ]
  go_wp2_with fail
  rw [rounds_succ]
  go_wp2_with fail
  refine bodyPost_ret (v := .tuple #[.agg #[.int .i64 (a - e), .int .i64 (b - f), .int .i64 (c - g), .int .i64 (d - h)], .bool true]) (by simp [results, Try.results20, go_sem, ↓IntWalk.iteOmega, *]) rfl ⟨rfl, ?_⟩
  clear hc hf
  ((repeat (first | (with_reducible exact Below.refl _ _) | (with_reducible assumption) | ((with_reducible refine b_set ?_ ?_); · (first | omega | (simp; done) | (simp; omega))) | ((with_reducible refine b_alloc ?_ ?_); · (first | omega | (simp; done) | (simp; omega))) | (with_reducible refine Below.drew ?_) | (with_reducible refine b_drewN ?_) | ((with_reducible refine b_call (by assumption) ?_ ?_); · (first | omega | (simp; done) | (simp; omega))))); done)

theorem purseKnown (w : World) : Calls Try.prog 10 #[] w fun e w' => e = .returned (.bool true) ∧ Below w.heap.size w w' := by
  go_enter Try.func10, Try.ntmps10
  go_wp2_with fail
  refine (purseSub_3 _ _ _ _ _ _ _ _ _ (by decide +kernel) (by decide +kernel) (by decide +kernel)).mono ?_
  rintro z w1 ⟨hz, hb⟩
  obtain rfl : z = .returned (.tuple #[.agg #[.int .i64 2, .int .i64 1, .int .i64 0, .int .i64 0], .bool true]) := hz
  obtain ⟨hc, hf⟩ := bcell hb
  have hs := hb.size; (try simp at hs)
  go_wp2_with fail
  go_ways
  go_outline
  go_ret
  clear hc hf
  exact ⟨rfl, by ((repeat (first | (with_reducible exact Below.refl _ _) | (with_reducible assumption) | ((with_reducible refine b_set ?_ ?_); · (first | omega | (simp; done) | (simp; omega))) | ((with_reducible refine b_alloc ?_ ?_); · (first | omega | (simp; done) | (simp; omega))) | (with_reducible refine Below.drew ?_) | (with_reducible refine b_drewN ?_) | ((with_reducible refine b_call (by assumption) ?_ ?_); · (first | omega | (simp; done) | (simp; omega))))); done)⟩

end Go.Proofs.Ytehcbagllcogaaa
