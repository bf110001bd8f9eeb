/- What purse.Sub and One, and the document's own answers to them, return. -/
import Derived.Test.YtbeebcocedmjkaaPurseB
namespace Go.Proofs.Ytbeebcocedmjkaa
open Go.RowKit
set_option linter.unusedVariables false
set_option linter.unusedSimpArgs false

def subP (a b c d e f g h : Int) : Bool := isP a b c d && isP e f g h && !lessP a b c d e f g h
theorem isP_iff {a b c d : Int} : isP a b c d = true ↔ (0 ≤ a ∧ a ≤ 1152921504606846976) ∧ (0 ≤ b ∧ b ≤ 1152921504606846976) ∧ (0 ≤ c ∧ c ≤ 1152921504606846976) ∧ (0 ≤ d ∧ d ≤ 1152921504606846976) := by
  unfold isP; simp only [Bool.and_eq_true, heldB_iff]; omega
theorem lessP_iff {a b c d e f g h : Int} : lessP a b c d e f g h = false ↔ e ≤ a ∧ f ≤ b ∧ g ≤ c ∧ h ≤ d := by
  unfold lessP; simp; omega

set_option maxHeartbeats 1000000 in
theorem purseSub_0 (a b c d e f g h : Int) (w : World) (h1 : isP a b c d = false) :
    Calls Try.prog 22 #[.agg #[.int .i64 a, .int .i64 b, .int .i64 c, .int .i64 d], .agg #[.int .i64 e, .int .i64 f, .int .i64 g, .int .i64 h]] w fun z w' => z = .returned (.tuple #[.agg #[.int .i64 0, .int .i64 0, .int .i64 0, .int .i64 0], .bool false]) ∧ Below w.heap.size w w' := by
  go_enter Try.func22, Try.ntmps22
  go_wp2_with (first
    | (go_at_call 17; refine (purseIs _ _ _ _ _).mono ?_; rintro z w' ⟨rfl, hb⟩; have hs := hb.size; (try simp at hs); obtain ⟨hc, hf⟩ := bcell hb)
    | (go_at_call 24; refine (purseLess _ _ _ _ _ _ _ _ _).mono ?_; rintro z w' ⟨rfl, hb⟩; have hs := hb.size; (try simp at hs); obtain ⟨hc, hf⟩ := bcell hb))
  refine bodyPost_ret (v := .tuple #[.agg #[.int .i64 0, .int .i64 0, .int .i64 0, .int .i64 0], .bool false]) (by simp [results, Try.results22, go_sem, ↓IntWalk.iteOmega, *]) rfl ⟨rfl, ?_⟩
  clear hc hf
  ((repeat (first | (with_reducible exact Below.refl _ _) | (with_reducible assumption) | ((with_reducible refine b_set ?_ ?_); · (first | omega | (simp; done) | (simp; omega))) | ((with_reducible refine b_alloc ?_ ?_); · (first | omega | (simp; done) | (simp; omega))) | (with_reducible refine Below.drew ?_) | (with_reducible refine b_drewN ?_) | ((with_reducible refine b_call (by assumption) ?_ ?_); · (first | omega | (simp; done) | (simp; omega))))); done)

set_option maxHeartbeats 1000000 in
theorem purseSub_1 (a b c d e f g h : Int) (w : World) (h1 : isP a b c d = true) (h2 : isP e f g h = false) :
    Calls Try.prog 22 #[.agg #[.int .i64 a, .int .i64 b, .int .i64 c, .int .i64 d], .agg #[.int .i64 e, .int .i64 f, .int .i64 g, .int .i64 h]] w fun z w' => z = .returned (.tuple #[.agg #[.int .i64 0, .int .i64 0, .int .i64 0, .int .i64 0], .bool false]) ∧ Below w.heap.size w w' := by
  go_enter Try.func22, Try.ntmps22
  go_wp2_with (first
    | (go_at_call 17; refine (purseIs _ _ _ _ _).mono ?_; rintro z w' ⟨rfl, hb⟩; have hs := hb.size; (try simp at hs); obtain ⟨hc, hf⟩ := bcell hb)
    | (go_at_call 24; refine (purseLess _ _ _ _ _ _ _ _ _).mono ?_; rintro z w' ⟨rfl, hb⟩; have hs := hb.size; (try simp at hs); obtain ⟨hc, hf⟩ := bcell hb))
  refine bodyPost_ret (v := .tuple #[.agg #[.int .i64 0, .int .i64 0, .int .i64 0, .int .i64 0], .bool false]) (by simp [results, Try.results22, go_sem, ↓IntWalk.iteOmega, *]) rfl ⟨rfl, ?_⟩
  clear hc hf
  ((repeat (first | (with_reducible exact Below.refl _ _) | (with_reducible assumption) | ((with_reducible refine b_set ?_ ?_); · (first | omega | (simp; done) | (simp; omega))) | ((with_reducible refine b_alloc ?_ ?_); · (first | omega | (simp; done) | (simp; omega))) | (with_reducible refine Below.drew ?_) | (with_reducible refine b_drewN ?_) | ((with_reducible refine b_call (by assumption) ?_ ?_); · (first | omega | (simp; done) | (simp; omega))))); done)

set_option maxHeartbeats 1000000 in
theorem purseSub_2 (a b c d e f g h : Int) (w : World) (h1 : isP a b c d = true) (h2 : isP e f g h = true) (h3 : lessP a b c d e f g h = true) :
    Calls Try.prog 22 #[.agg #[.int .i64 a, .int .i64 b, .int .i64 c, .int .i64 d], .agg #[.int .i64 e, .int .i64 f, .int .i64 g, .int .i64 h]] w fun z w' => z = .returned (.tuple #[.agg #[.int .i64 0, .int .i64 0, .int .i64 0, .int .i64 0], .bool false]) ∧ Below w.heap.size w w' := by
  go_enter Try.func22, Try.ntmps22
  go_wp2_with (first
    | (go_at_call 17; refine (purseIs _ _ _ _ _).mono ?_; rintro z w' ⟨rfl, hb⟩; have hs := hb.size; (try simp at hs); obtain ⟨hc, hf⟩ := bcell hb)
    | (go_at_call 24; refine (purseLess _ _ _ _ _ _ _ _ _).mono ?_; rintro z w' ⟨rfl, hb⟩; have hs := hb.size; (try simp at hs); obtain ⟨hc, hf⟩ := bcell hb))
  refine bodyPost_ret (v := .tuple #[.agg #[.int .i64 0, .int .i64 0, .int .i64 0, .int .i64 0], .bool false]) (by simp [results, Try.results22, go_sem, ↓IntWalk.iteOmega, *]) rfl ⟨rfl, ?_⟩
  clear hc hf
  ((repeat (first | (with_reducible exact Below.refl _ _) | (with_reducible assumption) | ((with_reducible refine b_set ?_ ?_); · (first | omega | (simp; done) | (simp; omega))) | ((with_reducible refine b_alloc ?_ ?_); · (first | omega | (simp; done) | (simp; omega))) | (with_reducible refine Below.drew ?_) | (with_reducible refine b_drewN ?_) | ((with_reducible refine b_call (by assumption) ?_ ?_); · (first | omega | (simp; done) | (simp; omega))))); done)

set_option maxHeartbeats 1000000 in
theorem purseSub_3 (a b c d e f g h : Int) (w : World) (h1 : isP a b c d = true) (h2 : isP e f g h = true) (h3 : lessP a b c d e f g h = false) :
    Calls Try.prog 22 #[.agg #[.int .i64 a, .int .i64 b, .int .i64 c, .int .i64 d], .agg #[.int .i64 e, .int .i64 f, .int .i64 g, .int .i64 h]] w fun z w' => z = .returned (.tuple #[.agg #[.int .i64 (a - e), .int .i64 (b - f), .int .i64 (c - g), .int .i64 (d - h)], .bool true]) ∧ Below w.heap.size w w' := by
  obtain ⟨⟨a1, a2⟩, ⟨b1, b2⟩, ⟨c1, c2⟩, ⟨d1, d2⟩⟩ := isP_iff.1 h1
  obtain ⟨⟨e1, e2⟩, ⟨f1, f2⟩, ⟨g1, g2⟩, ⟨p1, p2⟩⟩ := isP_iff.1 h2
  obtain ⟨l1, l2, l3, l4⟩ := lessP_iff.1 h3
  have i0 : ∀ w, (Instr.index 23 (.agg #[.int .i64 e, .int .i64 f, .int .i64 g, .int .i64 h]) (.int .i64 0)).run Try.prog w = .ok (.int .i64 (e)) w := fun _ => by kernel_rfl
  have i1 : ∀ w, (Instr.index 23 (.agg #[.int .i64 e, .int .i64 f, .int .i64 g, .int .i64 h]) (.int .i64 1)).run Try.prog w = .ok (.int .i64 (f)) w := fun _ => by kernel_rfl
  have i2 : ∀ w, (Instr.index 23 (.agg #[.int .i64 e, .int .i64 f, .int .i64 g, .int .i64 h]) (.int .i64 2)).run Try.prog w = .ok (.int .i64 (g)) w := fun _ => by kernel_rfl
  have i3 : ∀ w, (Instr.index 23 (.agg #[.int .i64 e, .int .i64 f, .int .i64 g, .int .i64 h]) (.int .i64 3)).run Try.prog w = .ok (.int .i64 (h)) w := fun _ => by kernel_rfl
  go_enter Try.func22, Try.ntmps22
  go_wp2_with (first
    | (go_at_call 17; refine (purseIs _ _ _ _ _).mono ?_; rintro z w' ⟨rfl, hb⟩; have hs := hb.size; (try simp at hs); obtain ⟨hc, hf⟩ := bcell hb)
    | (go_at_call 24; refine (purseLess _ _ _ _ _ _ _ _ _).mono ?_; rintro z w' ⟨rfl, hb⟩; have hs := hb.size; (try simp at hs); obtain ⟨hc, hf⟩ := bcell hb))
  refine wp_loop_rounds 5 ?_; rw [rounds_succ]
  go_wp2_with fail
  rw [rounds_succ]
  go_wp2_with fail
  rw [rounds_succ]
  go_wp2_with fail
  rw [rounds_succ]
  go_wp2_with fail
  rw [rounds_succ]
  go_wp2_with fail
  refine bodyPost_ret (v := .tuple #[.agg #[.int .i64 (a - e), .int .i64 (b - f), .int .i64 (c - g), .int .i64 (d - h)], .bool true]) (by simp [results, Try.results22, go_sem, ↓IntWalk.iteOmega, *]) rfl ⟨rfl, ?_⟩
  clear hc hf
  ((repeat (first | (with_reducible exact Below.refl _ _) | (with_reducible assumption) | ((with_reducible refine b_set ?_ ?_); · (first | omega | (simp; done) | (simp; omega))) | ((with_reducible refine b_alloc ?_ ?_); · (first | omega | (simp; done) | (simp; omega))) | (with_reducible refine Below.drew ?_) | (with_reducible refine b_drewN ?_) | ((with_reducible refine b_call (by assumption) ?_ ?_); · (first | omega | (simp; done) | (simp; omega))))); done)

set_option maxHeartbeats 1000000 in
theorem refSub_0 (a b c d e f g h : Int) (w : World) (h1 : isP a b c d = false) :
    Calls Try.prog 23 #[.agg #[.int .i64 a, .int .i64 b, .int .i64 c, .int .i64 d], .agg #[.int .i64 e, .int .i64 f, .int .i64 g, .int .i64 h]] w fun z w' => z = .returned (.tuple #[.agg #[.int .i64 0, .int .i64 0, .int .i64 0, .int .i64 0], .bool false]) ∧ Below w.heap.size w w' := by
  go_enter Try.func23, Try.ntmps23
  go_wp2_with (first
    | (go_at_call 18; refine (refPIs _ _ _ _ _).mono ?_; rintro z w' ⟨rfl, hb⟩; have hs := hb.size; (try simp at hs); obtain ⟨hc, hf⟩ := bcell hb)
    | (go_at_call 25; refine (refLess _ _ _ _ _ _ _ _ _).mono ?_; rintro z w' ⟨rfl, hb⟩; have hs := hb.size; (try simp at hs); obtain ⟨hc, hf⟩ := bcell hb))
  refine bodyPost_ret (v := .tuple #[.agg #[.int .i64 0, .int .i64 0, .int .i64 0, .int .i64 0], .bool false]) (by simp [results, Try.results23, go_sem, ↓IntWalk.iteOmega, *]) rfl ⟨rfl, ?_⟩
  clear hc hf
  ((repeat (first | (with_reducible exact Below.refl _ _) | (with_reducible assumption) | ((with_reducible refine b_set ?_ ?_); · (first | omega | (simp; done) | (simp; omega))) | ((with_reducible refine b_alloc ?_ ?_); · (first | omega | (simp; done) | (simp; omega))) | (with_reducible refine Below.drew ?_) | (with_reducible refine b_drewN ?_) | ((with_reducible refine b_call (by assumption) ?_ ?_); · (first | omega | (simp; done) | (simp; omega))))); done)

set_option maxHeartbeats 1000000 in
theorem refSub_1 (a b c d e f g h : Int) (w : World) (h1 : isP a b c d = true) (h2 : isP e f g h = false) :
    Calls Try.prog 23 #[.agg #[.int .i64 a, .int .i64 b, .int .i64 c, .int .i64 d], .agg #[.int .i64 e, .int .i64 f, .int .i64 g, .int .i64 h]] w fun z w' => z = .returned (.tuple #[.agg #[.int .i64 0, .int .i64 0, .int .i64 0, .int .i64 0], .bool false]) ∧ Below w.heap.size w w' := by
  go_enter Try.func23, Try.ntmps23
  go_wp2_with (first
    | (go_at_call 18; refine (refPIs _ _ _ _ _).mono ?_; rintro z w' ⟨rfl, hb⟩; have hs := hb.size; (try simp at hs); obtain ⟨hc, hf⟩ := bcell hb)
    | (go_at_call 25; refine (refLess _ _ _ _ _ _ _ _ _).mono ?_; rintro z w' ⟨rfl, hb⟩; have hs := hb.size; (try simp at hs); obtain ⟨hc, hf⟩ := bcell hb))
  refine bodyPost_ret (v := .tuple #[.agg #[.int .i64 0, .int .i64 0, .int .i64 0, .int .i64 0], .bool false]) (by simp [results, Try.results23, go_sem, ↓IntWalk.iteOmega, *]) rfl ⟨rfl, ?_⟩
  clear hc hf
  ((repeat (first | (with_reducible exact Below.refl _ _) | (with_reducible assumption) | ((with_reducible refine b_set ?_ ?_); · (first | omega | (simp; done) | (simp; omega))) | ((with_reducible refine b_alloc ?_ ?_); · (first | omega | (simp; done) | (simp; omega))) | (with_reducible refine Below.drew ?_) | (with_reducible refine b_drewN ?_) | ((with_reducible refine b_call (by assumption) ?_ ?_); · (first | omega | (simp; done) | (simp; omega))))); done)

set_option maxHeartbeats 1000000 in
theorem refSub_2 (a b c d e f g h : Int) (w : World) (h1 : isP a b c d = true) (h2 : isP e f g h = true) (h3 : lessP a b c d e f g h = true) :
    Calls Try.prog 23 #[.agg #[.int .i64 a, .int .i64 b, .int .i64 c, .int .i64 d], .agg #[.int .i64 e, .int .i64 f, .int .i64 g, .int .i64 h]] w fun z w' => z = .returned (.tuple #[.agg #[.int .i64 0, .int .i64 0, .int .i64 0, .int .i64 0], .bool false]) ∧ Below w.heap.size w w' := by
  go_enter Try.func23, Try.ntmps23
  go_wp2_with (first
    | (go_at_call 18; refine (refPIs _ _ _ _ _).mono ?_; rintro z w' ⟨rfl, hb⟩; have hs := hb.size; (try simp at hs); obtain ⟨hc, hf⟩ := bcell hb)
    | (go_at_call 25; refine (refLess _ _ _ _ _ _ _ _ _).mono ?_; rintro z w' ⟨rfl, hb⟩; have hs := hb.size; (try simp at hs); obtain ⟨hc, hf⟩ := bcell hb))
  refine bodyPost_ret (v := .tuple #[.agg #[.int .i64 0, .int .i64 0, .int .i64 0, .int .i64 0], .bool false]) (by simp [results, Try.results23, go_sem, ↓IntWalk.iteOmega, *]) rfl ⟨rfl, ?_⟩
  clear hc hf
  ((repeat (first | (with_reducible exact Below.refl _ _) | (with_reducible assumption) | ((with_reducible refine b_set ?_ ?_); · (first | omega | (simp; done) | (simp; omega))) | ((with_reducible refine b_alloc ?_ ?_); · (first | omega | (simp; done) | (simp; omega))) | (with_reducible refine Below.drew ?_) | (with_reducible refine b_drewN ?_) | ((with_reducible refine b_call (by assumption) ?_ ?_); · (first | omega | (simp; done) | (simp; omega))))); done)

set_option maxHeartbeats 1000000 in
theorem refSub_3 (a b c d e f g h : Int) (w : World) (h1 : isP a b c d = true) (h2 : isP e f g h = true) (h3 : lessP a b c d e f g h = false) :
    Calls Try.prog 23 #[.agg #[.int .i64 a, .int .i64 b, .int .i64 c, .int .i64 d], .agg #[.int .i64 e, .int .i64 f, .int .i64 g, .int .i64 h]] w fun z w' => z = .returned (.tuple #[.agg #[.int .i64 (a - e), .int .i64 (b - f), .int .i64 (c - g), .int .i64 (d - h)], .bool true]) ∧ Below w.heap.size w w' := by
  obtain ⟨⟨a1, a2⟩, ⟨b1, b2⟩, ⟨c1, c2⟩, ⟨d1, d2⟩⟩ := isP_iff.1 h1
  obtain ⟨⟨e1, e2⟩, ⟨f1, f2⟩, ⟨g1, g2⟩, ⟨p1, p2⟩⟩ := isP_iff.1 h2
  obtain ⟨l1, l2, l3, l4⟩ := lessP_iff.1 h3
  go_enter Try.func23, Try.ntmps23
  go_wp2_with fail
  refine (refPIs _ _ _ _ _).mono ?_; rintro z w1 ⟨rfl, hb1⟩
  obtain ⟨hc, hf⟩ := bcell hb1
  go_wp2_with fail
  refine (refPIs _ _ _ _ _).mono ?_; rintro z w2 ⟨rfl, hb2⟩
  replace hb2 := hb1.trans (hb2.mono hb1.size)
  clear hc hf hb1
  obtain ⟨hc, hf⟩ := bcell hb2
  go_wp2_with fail
  refine (refLess _ _ _ _ _ _ _ _ _).mono ?_; rintro z w3 ⟨rfl, hb3⟩
  replace hb3 := hb2.trans (hb3.mono hb2.size)
  clear hc hf hb2
  have k00 := bkeep hb3 (b := w.heap.size) (o := 0) (v := .int .i64 a) (by ((repeat (first | (with_reducible assumption) | ((with_reducible refine c_set_same ?_); ((repeat (first | (with_reducible exact h_of (by assumption)) | (with_reducible assumption) | (with_reducible refine h_set ?_) | ((with_reducible refine h_alloc ?_ ?_); · (first | omega | (simp; done) | (simp; omega))) | ((with_reducible refine h_new ?_ ?_) <;> (first | omega | (simp; done) | (simp; omega))) | (with_reducible refine h_drew ?_) | (with_reducible refine h_drewN ?_) | ((with_reducible refine h_keep (by assumption) ?_ ?_); · (first | omega | (simp; done) | (simp; omega))))); done)) | ((with_reducible refine c_set_other ?_ ?_); · (first | omega | (simp; done) | (simp; omega))) | ((with_reducible refine c_alloc ?_ ?_); · (first | omega | (simp; done) | (simp; omega))) | ((with_reducible refine c_new ?_ ?_) <;> (first | omega | (simp; done) | (simp; omega))) | (with_reducible refine c_drew ?_) | (with_reducible refine c_drewN ?_) | ((with_reducible refine c_keep (by assumption) ?_ ?_); · (first | omega | (simp; done) | (simp; omega))))); done)) (by (first | omega | (simp; done) | (simp; omega)))
  have m00 := bfree hb3 (b := w.heap.size) (o := 0) (v := false) (by ((repeat (first | (with_reducible assumption) | (with_reducible refine f_set ?_) | ((with_reducible refine f_alloc ?_ ?_); · (first | omega | (simp; done) | (simp; omega))) | ((with_reducible refine f_new ?_); (first | omega | (simp; done) | (simp; omega)); done) | (with_reducible refine f_drew ?_) | (with_reducible refine f_drewN ?_) | ((with_reducible refine f_keep (by assumption) ?_ ?_); · (first | omega | (simp; done) | (simp; omega))))); done)) (by (first | omega | (simp; done) | (simp; omega)))
  have k01 := bkeep hb3 (b := w.heap.size) (o := 1) (v := .int .i64 b) (by ((repeat (first | (with_reducible assumption) | ((with_reducible refine c_set_same ?_); ((repeat (first | (with_reducible exact h_of (by assumption)) | (with_reducible assumption) | (with_reducible refine h_set ?_) | ((with_reducible refine h_alloc ?_ ?_); · (first | omega | (simp; done) | (simp; omega))) | ((with_reducible refine h_new ?_ ?_) <;> (first | omega | (simp; done) | (simp; omega))) | (with_reducible refine h_drew ?_) | (with_reducible refine h_drewN ?_) | ((with_reducible refine h_keep (by assumption) ?_ ?_); · (first | omega | (simp; done) | (simp; omega))))); done)) | ((with_reducible refine c_set_other ?_ ?_); · (first | omega | (simp; done) | (simp; omega))) | ((with_reducible refine c_alloc ?_ ?_); · (first | omega | (simp; done) | (simp; omega))) | ((with_reducible refine c_new ?_ ?_) <;> (first | omega | (simp; done) | (simp; omega))) | (with_reducible refine c_drew ?_) | (with_reducible refine c_drewN ?_) | ((with_reducible refine c_keep (by assumption) ?_ ?_); · (first | omega | (simp; done) | (simp; omega))))); done)) (by (first | omega | (simp; done) | (simp; omega)))
  have m01 := bfree hb3 (b := w.heap.size) (o := 1) (v := false) (by ((repeat (first | (with_reducible assumption) | (with_reducible refine f_set ?_) | ((with_reducible refine f_alloc ?_ ?_); · (first | omega | (simp; done) | (simp; omega))) | ((with_reducible refine f_new ?_); (first | omega | (simp; done) | (simp; omega)); done) | (with_reducible refine f_drew ?_) | (with_reducible refine f_drewN ?_) | ((with_reducible refine f_keep (by assumption) ?_ ?_); · (first | omega | (simp; done) | (simp; omega))))); done)) (by (first | omega | (simp; done) | (simp; omega)))
  have k02 := bkeep hb3 (b := w.heap.size) (o := 2) (v := .int .i64 c) (by ((repeat (first | (with_reducible assumption) | ((with_reducible refine c_set_same ?_); ((repeat (first | (with_reducible exact h_of (by assumption)) | (with_reducible assumption) | (with_reducible refine h_set ?_) | ((with_reducible refine h_alloc ?_ ?_); · (first | omega | (simp; done) | (simp; omega))) | ((with_reducible refine h_new ?_ ?_) <;> (first | omega | (simp; done) | (simp; omega))) | (with_reducible refine h_drew ?_) | (with_reducible refine h_drewN ?_) | ((with_reducible refine h_keep (by assumption) ?_ ?_); · (first | omega | (simp; done) | (simp; omega))))); done)) | ((with_reducible refine c_set_other ?_ ?_); · (first | omega | (simp; done) | (simp; omega))) | ((with_reducible refine c_alloc ?_ ?_); · (first | omega | (simp; done) | (simp; omega))) | ((with_reducible refine c_new ?_ ?_) <;> (first | omega | (simp; done) | (simp; omega))) | (with_reducible refine c_drew ?_) | (with_reducible refine c_drewN ?_) | ((with_reducible refine c_keep (by assumption) ?_ ?_); · (first | omega | (simp; done) | (simp; omega))))); done)) (by (first | omega | (simp; done) | (simp; omega)))
  have m02 := bfree hb3 (b := w.heap.size) (o := 2) (v := false) (by ((repeat (first | (with_reducible assumption) | (with_reducible refine f_set ?_) | ((with_reducible refine f_alloc ?_ ?_); · (first | omega | (simp; done) | (simp; omega))) | ((with_reducible refine f_new ?_); (first | omega | (simp; done) | (simp; omega)); done) | (with_reducible refine f_drew ?_) | (with_reducible refine f_drewN ?_) | ((with_reducible refine f_keep (by assumption) ?_ ?_); · (first | omega | (simp; done) | (simp; omega))))); done)) (by (first | omega | (simp; done) | (simp; omega)))
  have k03 := bkeep hb3 (b := w.heap.size) (o := 3) (v := .int .i64 d) (by ((repeat (first | (with_reducible assumption) | ((with_reducible refine c_set_same ?_); ((repeat (first | (with_reducible exact h_of (by assumption)) | (with_reducible assumption) | (with_reducible refine h_set ?_) | ((with_reducible refine h_alloc ?_ ?_); · (first | omega | (simp; done) | (simp; omega))) | ((with_reducible refine h_new ?_ ?_) <;> (first | omega | (simp; done) | (simp; omega))) | (with_reducible refine h_drew ?_) | (with_reducible refine h_drewN ?_) | ((with_reducible refine h_keep (by assumption) ?_ ?_); · (first | omega | (simp; done) | (simp; omega))))); done)) | ((with_reducible refine c_set_other ?_ ?_); · (first | omega | (simp; done) | (simp; omega))) | ((with_reducible refine c_alloc ?_ ?_); · (first | omega | (simp; done) | (simp; omega))) | ((with_reducible refine c_new ?_ ?_) <;> (first | omega | (simp; done) | (simp; omega))) | (with_reducible refine c_drew ?_) | (with_reducible refine c_drewN ?_) | ((with_reducible refine c_keep (by assumption) ?_ ?_); · (first | omega | (simp; done) | (simp; omega))))); done)) (by (first | omega | (simp; done) | (simp; omega)))
  have m03 := bfree hb3 (b := w.heap.size) (o := 3) (v := false) (by ((repeat (first | (with_reducible assumption) | (with_reducible refine f_set ?_) | ((with_reducible refine f_alloc ?_ ?_); · (first | omega | (simp; done) | (simp; omega))) | ((with_reducible refine f_new ?_); (first | omega | (simp; done) | (simp; omega)); done) | (with_reducible refine f_drew ?_) | (with_reducible refine f_drewN ?_) | ((with_reducible refine f_keep (by assumption) ?_ ?_); · (first | omega | (simp; done) | (simp; omega))))); done)) (by (first | omega | (simp; done) | (simp; omega)))
  have k10 := bkeep hb3 (b := w.heap.size + 1) (o := 0) (v := .int .i64 e) (by ((repeat (first | (with_reducible assumption) | ((with_reducible refine c_set_same ?_); ((repeat (first | (with_reducible exact h_of (by assumption)) | (with_reducible assumption) | (with_reducible refine h_set ?_) | ((with_reducible refine h_alloc ?_ ?_); · (first | omega | (simp; done) | (simp; omega))) | ((with_reducible refine h_new ?_ ?_) <;> (first | omega | (simp; done) | (simp; omega))) | (with_reducible refine h_drew ?_) | (with_reducible refine h_drewN ?_) | ((with_reducible refine h_keep (by assumption) ?_ ?_); · (first | omega | (simp; done) | (simp; omega))))); done)) | ((with_reducible refine c_set_other ?_ ?_); · (first | omega | (simp; done) | (simp; omega))) | ((with_reducible refine c_alloc ?_ ?_); · (first | omega | (simp; done) | (simp; omega))) | ((with_reducible refine c_new ?_ ?_) <;> (first | omega | (simp; done) | (simp; omega))) | (with_reducible refine c_drew ?_) | (with_reducible refine c_drewN ?_) | ((with_reducible refine c_keep (by assumption) ?_ ?_); · (first | omega | (simp; done) | (simp; omega))))); done)) (by (first | omega | (simp; done) | (simp; omega)))
  have k11 := bkeep hb3 (b := w.heap.size + 1) (o := 1) (v := .int .i64 f) (by ((repeat (first | (with_reducible assumption) | ((with_reducible refine c_set_same ?_); ((repeat (first | (with_reducible exact h_of (by assumption)) | (with_reducible assumption) | (with_reducible refine h_set ?_) | ((with_reducible refine h_alloc ?_ ?_); · (first | omega | (simp; done) | (simp; omega))) | ((with_reducible refine h_new ?_ ?_) <;> (first | omega | (simp; done) | (simp; omega))) | (with_reducible refine h_drew ?_) | (with_reducible refine h_drewN ?_) | ((with_reducible refine h_keep (by assumption) ?_ ?_); · (first | omega | (simp; done) | (simp; omega))))); done)) | ((with_reducible refine c_set_other ?_ ?_); · (first | omega | (simp; done) | (simp; omega))) | ((with_reducible refine c_alloc ?_ ?_); · (first | omega | (simp; done) | (simp; omega))) | ((with_reducible refine c_new ?_ ?_) <;> (first | omega | (simp; done) | (simp; omega))) | (with_reducible refine c_drew ?_) | (with_reducible refine c_drewN ?_) | ((with_reducible refine c_keep (by assumption) ?_ ?_); · (first | omega | (simp; done) | (simp; omega))))); done)) (by (first | omega | (simp; done) | (simp; omega)))
  have k12 := bkeep hb3 (b := w.heap.size + 1) (o := 2) (v := .int .i64 g) (by ((repeat (first | (with_reducible assumption) | ((with_reducible refine c_set_same ?_); ((repeat (first | (with_reducible exact h_of (by assumption)) | (with_reducible assumption) | (with_reducible refine h_set ?_) | ((with_reducible refine h_alloc ?_ ?_); · (first | omega | (simp; done) | (simp; omega))) | ((with_reducible refine h_new ?_ ?_) <;> (first | omega | (simp; done) | (simp; omega))) | (with_reducible refine h_drew ?_) | (with_reducible refine h_drewN ?_) | ((with_reducible refine h_keep (by assumption) ?_ ?_); · (first | omega | (simp; done) | (simp; omega))))); done)) | ((with_reducible refine c_set_other ?_ ?_); · (first | omega | (simp; done) | (simp; omega))) | ((with_reducible refine c_alloc ?_ ?_); · (first | omega | (simp; done) | (simp; omega))) | ((with_reducible refine c_new ?_ ?_) <;> (first | omega | (simp; done) | (simp; omega))) | (with_reducible refine c_drew ?_) | (with_reducible refine c_drewN ?_) | ((with_reducible refine c_keep (by assumption) ?_ ?_); · (first | omega | (simp; done) | (simp; omega))))); done)) (by (first | omega | (simp; done) | (simp; omega)))
  have k13 := bkeep hb3 (b := w.heap.size + 1) (o := 3) (v := .int .i64 h) (by ((repeat (first | (with_reducible assumption) | ((with_reducible refine c_set_same ?_); ((repeat (first | (with_reducible exact h_of (by assumption)) | (with_reducible assumption) | (with_reducible refine h_set ?_) | ((with_reducible refine h_alloc ?_ ?_); · (first | omega | (simp; done) | (simp; omega))) | ((with_reducible refine h_new ?_ ?_) <;> (first | omega | (simp; done) | (simp; omega))) | (with_reducible refine h_drew ?_) | (with_reducible refine h_drewN ?_) | ((with_reducible refine h_keep (by assumption) ?_ ?_); · (first | omega | (simp; done) | (simp; omega))))); done)) | ((with_reducible refine c_set_other ?_ ?_); · (first | omega | (simp; done) | (simp; omega))) | ((with_reducible refine c_alloc ?_ ?_); · (first | omega | (simp; done) | (simp; omega))) | ((with_reducible refine c_new ?_ ?_) <;> (first | omega | (simp; done) | (simp; omega))) | (with_reducible refine c_drew ?_) | (with_reducible refine c_drewN ?_) | ((with_reducible refine c_keep (by assumption) ?_ ?_); · (first | omega | (simp; done) | (simp; omega))))); done)) (by (first | omega | (simp; done) | (simp; omega)))
  have k20 := bkeep hb3 (b := w.heap.size + 1 + 1) (o := 0) (v := .int .i64 0) (by ((repeat (first | (with_reducible assumption) | ((with_reducible refine c_set_same ?_); ((repeat (first | (with_reducible exact h_of (by assumption)) | (with_reducible assumption) | (with_reducible refine h_set ?_) | ((with_reducible refine h_alloc ?_ ?_); · (first | omega | (simp; done) | (simp; omega))) | ((with_reducible refine h_new ?_ ?_) <;> (first | omega | (simp; done) | (simp; omega))) | (with_reducible refine h_drew ?_) | (with_reducible refine h_drewN ?_) | ((with_reducible refine h_keep (by assumption) ?_ ?_); · (first | omega | (simp; done) | (simp; omega))))); done)) | ((with_reducible refine c_set_other ?_ ?_); · (first | omega | (simp; done) | (simp; omega))) | ((with_reducible refine c_alloc ?_ ?_); · (first | omega | (simp; done) | (simp; omega))) | ((with_reducible refine c_new ?_ ?_) <;> (first | omega | (simp; done) | (simp; omega))) | (with_reducible refine c_drew ?_) | (with_reducible refine c_drewN ?_) | ((with_reducible refine c_keep (by assumption) ?_ ?_); · (first | omega | (simp; done) | (simp; omega))))); done)) (by (first | omega | (simp; done) | (simp; omega)))
  have m20 := bfree hb3 (b := w.heap.size + 1 + 1) (o := 0) (v := false) (by ((repeat (first | (with_reducible assumption) | (with_reducible refine f_set ?_) | ((with_reducible refine f_alloc ?_ ?_); · (first | omega | (simp; done) | (simp; omega))) | ((with_reducible refine f_new ?_); (first | omega | (simp; done) | (simp; omega)); done) | (with_reducible refine f_drew ?_) | (with_reducible refine f_drewN ?_) | ((with_reducible refine f_keep (by assumption) ?_ ?_); · (first | omega | (simp; done) | (simp; omega))))); done)) (by (first | omega | (simp; done) | (simp; omega)))
  have k21 := bkeep hb3 (b := w.heap.size + 1 + 1) (o := 1) (v := .int .i64 0) (by ((repeat (first | (with_reducible assumption) | ((with_reducible refine c_set_same ?_); ((repeat (first | (with_reducible exact h_of (by assumption)) | (with_reducible assumption) | (with_reducible refine h_set ?_) | ((with_reducible refine h_alloc ?_ ?_); · (first | omega | (simp; done) | (simp; omega))) | ((with_reducible refine h_new ?_ ?_) <;> (first | omega | (simp; done) | (simp; omega))) | (with_reducible refine h_drew ?_) | (with_reducible refine h_drewN ?_) | ((with_reducible refine h_keep (by assumption) ?_ ?_); · (first | omega | (simp; done) | (simp; omega))))); done)) | ((with_reducible refine c_set_other ?_ ?_); · (first | omega | (simp; done) | (simp; omega))) | ((with_reducible refine c_alloc ?_ ?_); · (first | omega | (simp; done) | (simp; omega))) | ((with_reducible refine c_new ?_ ?_) <;> (first | omega | (simp; done) | (simp; omega))) | (with_reducible refine c_drew ?_) | (with_reducible refine c_drewN ?_) | ((with_reducible refine c_keep (by assumption) ?_ ?_); · (first | omega | (simp; done) | (simp; omega))))); done)) (by (first | omega | (simp; done) | (simp; omega)))
  have m21 := bfree hb3 (b := w.heap.size + 1 + 1) (o := 1) (v := false) (by ((repeat (first | (with_reducible assumption) | (with_reducible refine f_set ?_) | ((with_reducible refine f_alloc ?_ ?_); · (first | omega | (simp; done) | (simp; omega))) | ((with_reducible refine f_new ?_); (first | omega | (simp; done) | (simp; omega)); done) | (with_reducible refine f_drew ?_) | (with_reducible refine f_drewN ?_) | ((with_reducible refine f_keep (by assumption) ?_ ?_); · (first | omega | (simp; done) | (simp; omega))))); done)) (by (first | omega | (simp; done) | (simp; omega)))
  have k22 := bkeep hb3 (b := w.heap.size + 1 + 1) (o := 2) (v := .int .i64 0) (by ((repeat (first | (with_reducible assumption) | ((with_reducible refine c_set_same ?_); ((repeat (first | (with_reducible exact h_of (by assumption)) | (with_reducible assumption) | (with_reducible refine h_set ?_) | ((with_reducible refine h_alloc ?_ ?_); · (first | omega | (simp; done) | (simp; omega))) | ((with_reducible refine h_new ?_ ?_) <;> (first | omega | (simp; done) | (simp; omega))) | (with_reducible refine h_drew ?_) | (with_reducible refine h_drewN ?_) | ((with_reducible refine h_keep (by assumption) ?_ ?_); · (first | omega | (simp; done) | (simp; omega))))); done)) | ((with_reducible refine c_set_other ?_ ?_); · (first | omega | (simp; done) | (simp; omega))) | ((with_reducible refine c_alloc ?_ ?_); · (first | omega | (simp; done) | (simp; omega))) | ((with_reducible refine c_new ?_ ?_) <;> (first | omega | (simp; done) | (simp; omega))) | (with_reducible refine c_drew ?_) | (with_reducible refine c_drewN ?_) | ((with_reducible refine c_keep (by assumption) ?_ ?_); · (first | omega | (simp; done) | (simp; omega))))); done)) (by (first | omega | (simp; done) | (simp; omega)))
  have m22 := bfree hb3 (b := w.heap.size + 1 + 1) (o := 2) (v := false) (by ((repeat (first | (with_reducible assumption) | (with_reducible refine f_set ?_) | ((with_reducible refine f_alloc ?_ ?_); · (first | omega | (simp; done) | (simp; omega))) | ((with_reducible refine f_new ?_); (first | omega | (simp; done) | (simp; omega)); done) | (with_reducible refine f_drew ?_) | (with_reducible refine f_drewN ?_) | ((with_reducible refine f_keep (by assumption) ?_ ?_); · (first | omega | (simp; done) | (simp; omega))))); done)) (by (first | omega | (simp; done) | (simp; omega)))
  have k23 := bkeep hb3 (b := w.heap.size + 1 + 1) (o := 3) (v := .int .i64 0) (by ((repeat (first | (with_reducible assumption) | ((with_reducible refine c_set_same ?_); ((repeat (first | (with_reducible exact h_of (by assumption)) | (with_reducible assumption) | (with_reducible refine h_set ?_) | ((with_reducible refine h_alloc ?_ ?_); · (first | omega | (simp; done) | (simp; omega))) | ((with_reducible refine h_new ?_ ?_) <;> (first | omega | (simp; done) | (simp; omega))) | (with_reducible refine h_drew ?_) | (with_reducible refine h_drewN ?_) | ((with_reducible refine h_keep (by assumption) ?_ ?_); · (first | omega | (simp; done) | (simp; omega))))); done)) | ((with_reducible refine c_set_other ?_ ?_); · (first | omega | (simp; done) | (simp; omega))) | ((with_reducible refine c_alloc ?_ ?_); · (first | omega | (simp; done) | (simp; omega))) | ((with_reducible refine c_new ?_ ?_) <;> (first | omega | (simp; done) | (simp; omega))) | (with_reducible refine c_drew ?_) | (with_reducible refine c_drewN ?_) | ((with_reducible refine c_keep (by assumption) ?_ ?_); · (first | omega | (simp; done) | (simp; omega))))); done)) (by (first | omega | (simp; done) | (simp; omega)))
  have m23 := bfree hb3 (b := w.heap.size + 1 + 1) (o := 3) (v := false) (by ((repeat (first | (with_reducible assumption) | (with_reducible refine f_set ?_) | ((with_reducible refine f_alloc ?_ ?_); · (first | omega | (simp; done) | (simp; omega))) | ((with_reducible refine f_new ?_); (first | omega | (simp; done) | (simp; omega)); done) | (with_reducible refine f_drew ?_) | (with_reducible refine f_drewN ?_) | ((with_reducible refine f_keep (by assumption) ?_ ?_); · (first | omega | (simp; done) | (simp; omega))))); done)) (by (first | omega | (simp; done) | (simp; omega)))
  have hs3 := hb3.size; simp at hs3
  have hB : Below w.heap.size w w3 := by ((repeat (first | (with_reducible exact Below.refl _ _) | (with_reducible assumption) | ((with_reducible refine b_set ?_ ?_); · (first | omega | (simp; done) | (simp; omega))) | ((with_reducible refine b_alloc ?_ ?_); · (first | omega | (simp; done) | (simp; omega))) | (with_reducible refine Below.drew ?_) | (with_reducible refine b_drewN ?_) | ((with_reducible refine b_call (by assumption) ?_ ?_); · (first | omega | (simp; done) | (simp; omega))))); done)
  clear hb3
  go_wp2_with fail
  refine wp_loop_rounds 5 ?_; rw [rounds_succ]
  go_wp2_with fail
  go_region
  go_wp2_with fail
  rw [rounds_succ]
  go_wp2_with fail
  go_region
  go_wp2_with fail
  rw [rounds_succ]
  go_wp2_with fail
  go_region
  go_wp2_with fail
  rw [rounds_succ]
  go_wp2_with fail
  go_region
  go_wp2_with fail
  rw [rounds_succ]
  go_wp2_with fail
  refine bodyPost_ret (v := .tuple #[.agg #[.int .i64 (a - e), .int .i64 (b - f), .int .i64 (c - g), .int .i64 (d - h)], .bool true]) (by simp [results, Try.results23, go_sem, ↓IntWalk.iteOmega, *]) rfl ⟨rfl, ?_⟩
  skip
  ((repeat (first | (with_reducible exact Below.refl _ _) | (with_reducible assumption) | ((with_reducible refine b_set ?_ ?_); · (first | omega | (simp; done) | (simp; omega))) | ((with_reducible refine b_alloc ?_ ?_); · (first | omega | (simp; done) | (simp; omega))) | (with_reducible refine Below.drew ?_) | (with_reducible refine b_drewN ?_) | ((with_reducible refine b_call (by assumption) ?_ ?_); · (first | omega | (simp; done) | (simp; omega))))); done)

end Go.Proofs.Ytbeebcocedmjkaa
