/- The walk of the law PurseOne: it returns true. -/
import Derived.Test.YtbeebcocedmjkaaPurseD
namespace Go.Proofs.Ytbeebcocedmjkaa
open Go.RowKit
set_option linter.unusedVariables false
set_option linter.unusedSimpArgs false

set_option maxHeartbeats 2000000 in
theorem walkOne_0 (n a b c d : Int) (w : World) (hn : heldB n = true) :
    Calls Try.prog 3 #[.int .i64 0, .int .i64 n, .agg #[.int .i64 a, .int .i64 b, .int .i64 c, .int .i64 d]] w fun z w' => z = .returned (.bool true) ∧ Below w.heap.size w w' := by
  go_enter Try.func3, Try.ntmps3
  go_wp2_with fail
  refine (purseOne_0 _ _ hn).mono ?_
  rintro z w1 ⟨rfl, hb⟩
  have hs := hb.size; (try simp at hs)
  obtain ⟨hc, hf⟩ := bcell hb
  go_wp2_with fail
  refine (refOne_0 _ _ hn).mono ?_
  rintro z w2 ⟨rfl, hb2⟩
  have hs2 := hb2.size; (try simp at hs2)
  clear hc hf
  go_wp2_with fail
  generalize hV : (w2.alloc _ : World) = V
  have k0 : V.cell? ⟨w.heap.size, 0, none⟩ = some (.int .i64 a) := by rw [← hV]; ((repeat (first | (with_reducible assumption) | ((with_reducible refine c_set_same ?_); ((repeat (first | (with_reducible exact h_of (by assumption)) | (with_reducible assumption) | (with_reducible refine h_set ?_) | ((with_reducible refine h_alloc ?_ ?_); · (first | omega | (simp; done) | (simp; omega))) | ((with_reducible refine h_new ?_ ?_) <;> (first | omega | (simp; done) | (simp; omega))) | (with_reducible refine h_drew ?_) | (with_reducible refine h_drewN ?_) | ((with_reducible refine h_keep (by assumption) ?_ ?_); · (first | omega | (simp; done) | (simp; omega))))); done)) | ((with_reducible refine c_set_other ?_ ?_); · (first | omega | (simp; done) | (simp; omega))) | ((with_reducible refine c_alloc ?_ ?_); · (first | omega | (simp; done) | (simp; omega))) | ((with_reducible refine c_new ?_ ?_) <;> (first | omega | (simp; done) | (simp; omega))) | (with_reducible refine c_drew ?_) | (with_reducible refine c_drewN ?_) | ((with_reducible refine c_keep (by assumption) ?_ ?_); · (first | omega | (simp; done) | (simp; omega))))); done)
  have k1 : V.cell? ⟨w.heap.size, 1, none⟩ = some (.int .i64 b) := by rw [← hV]; ((repeat (first | (with_reducible assumption) | ((with_reducible refine c_set_same ?_); ((repeat (first | (with_reducible exact h_of (by assumption)) | (with_reducible assumption) | (with_reducible refine h_set ?_) | ((with_reducible refine h_alloc ?_ ?_); · (first | omega | (simp; done) | (simp; omega))) | ((with_reducible refine h_new ?_ ?_) <;> (first | omega | (simp; done) | (simp; omega))) | (with_reducible refine h_drew ?_) | (with_reducible refine h_drewN ?_) | ((with_reducible refine h_keep (by assumption) ?_ ?_); · (first | omega | (simp; done) | (simp; omega))))); done)) | ((with_reducible refine c_set_other ?_ ?_); · (first | omega | (simp; done) | (simp; omega))) | ((with_reducible refine c_alloc ?_ ?_); · (first | omega | (simp; done) | (simp; omega))) | ((with_reducible refine c_new ?_ ?_) <;> (first | omega | (simp; done) | (simp; omega))) | (with_reducible refine c_drew ?_) | (with_reducible refine c_drewN ?_) | ((with_reducible refine c_keep (by assumption) ?_ ?_); · (first | omega | (simp; done) | (simp; omega))))); done)
  have k2 : V.cell? ⟨w.heap.size, 2, none⟩ = some (.int .i64 c) := by rw [← hV]; ((repeat (first | (with_reducible assumption) | ((with_reducible refine c_set_same ?_); ((repeat (first | (with_reducible exact h_of (by assumption)) | (with_reducible assumption) | (with_reducible refine h_set ?_) | ((with_reducible refine h_alloc ?_ ?_); · (first | omega | (simp; done) | (simp; omega))) | ((with_reducible refine h_new ?_ ?_) <;> (first | omega | (simp; done) | (simp; omega))) | (with_reducible refine h_drew ?_) | (with_reducible refine h_drewN ?_) | ((with_reducible refine h_keep (by assumption) ?_ ?_); · (first | omega | (simp; done) | (simp; omega))))); done)) | ((with_reducible refine c_set_other ?_ ?_); · (first | omega | (simp; done) | (simp; omega))) | ((with_reducible refine c_alloc ?_ ?_); · (first | omega | (simp; done) | (simp; omega))) | ((with_reducible refine c_new ?_ ?_) <;> (first | omega | (simp; done) | (simp; omega))) | (with_reducible refine c_drew ?_) | (with_reducible refine c_drewN ?_) | ((with_reducible refine c_keep (by assumption) ?_ ?_); · (first | omega | (simp; done) | (simp; omega))))); done)
  have k3 : V.cell? ⟨w.heap.size, 3, none⟩ = some (.int .i64 d) := by rw [← hV]; ((repeat (first | (with_reducible assumption) | ((with_reducible refine c_set_same ?_); ((repeat (first | (with_reducible exact h_of (by assumption)) | (with_reducible assumption) | (with_reducible refine h_set ?_) | ((with_reducible refine h_alloc ?_ ?_); · (first | omega | (simp; done) | (simp; omega))) | ((with_reducible refine h_new ?_ ?_) <;> (first | omega | (simp; done) | (simp; omega))) | (with_reducible refine h_drew ?_) | (with_reducible refine h_drewN ?_) | ((with_reducible refine h_keep (by assumption) ?_ ?_); · (first | omega | (simp; done) | (simp; omega))))); done)) | ((with_reducible refine c_set_other ?_ ?_); · (first | omega | (simp; done) | (simp; omega))) | ((with_reducible refine c_alloc ?_ ?_); · (first | omega | (simp; done) | (simp; omega))) | ((with_reducible refine c_new ?_ ?_) <;> (first | omega | (simp; done) | (simp; omega))) | (with_reducible refine c_drew ?_) | (with_reducible refine c_drewN ?_) | ((with_reducible refine c_keep (by assumption) ?_ ?_); · (first | omega | (simp; done) | (simp; omega))))); done)
  have k4 : V.cell? ⟨w1.heap.size, 0, none⟩ = some (.int .i64 n) := by rw [← hV]; ((repeat (first | (with_reducible assumption) | ((with_reducible refine c_set_same ?_); ((repeat (first | (with_reducible exact h_of (by assumption)) | (with_reducible assumption) | (with_reducible refine h_set ?_) | ((with_reducible refine h_alloc ?_ ?_); · (first | omega | (simp; done) | (simp; omega))) | ((with_reducible refine h_new ?_ ?_) <;> (first | omega | (simp; done) | (simp; omega))) | (with_reducible refine h_drew ?_) | (with_reducible refine h_drewN ?_) | ((with_reducible refine h_keep (by assumption) ?_ ?_); · (first | omega | (simp; done) | (simp; omega))))); done)) | ((with_reducible refine c_set_other ?_ ?_); · (first | omega | (simp; done) | (simp; omega))) | ((with_reducible refine c_alloc ?_ ?_); · (first | omega | (simp; done) | (simp; omega))) | ((with_reducible refine c_new ?_ ?_) <;> (first | omega | (simp; done) | (simp; omega))) | (with_reducible refine c_drew ?_) | (with_reducible refine c_drewN ?_) | ((with_reducible refine c_keep (by assumption) ?_ ?_); · (first | omega | (simp; done) | (simp; omega))))); done)
  have k5 : V.cell? ⟨w1.heap.size, 1, none⟩ = some (.int .i64 0) := by rw [← hV]; ((repeat (first | (with_reducible assumption) | ((with_reducible refine c_set_same ?_); ((repeat (first | (with_reducible exact h_of (by assumption)) | (with_reducible assumption) | (with_reducible refine h_set ?_) | ((with_reducible refine h_alloc ?_ ?_); · (first | omega | (simp; done) | (simp; omega))) | ((with_reducible refine h_new ?_ ?_) <;> (first | omega | (simp; done) | (simp; omega))) | (with_reducible refine h_drew ?_) | (with_reducible refine h_drewN ?_) | ((with_reducible refine h_keep (by assumption) ?_ ?_); · (first | omega | (simp; done) | (simp; omega))))); done)) | ((with_reducible refine c_set_other ?_ ?_); · (first | omega | (simp; done) | (simp; omega))) | ((with_reducible refine c_alloc ?_ ?_); · (first | omega | (simp; done) | (simp; omega))) | ((with_reducible refine c_new ?_ ?_) <;> (first | omega | (simp; done) | (simp; omega))) | (with_reducible refine c_drew ?_) | (with_reducible refine c_drewN ?_) | ((with_reducible refine c_keep (by assumption) ?_ ?_); · (first | omega | (simp; done) | (simp; omega))))); done)
  have k6 : V.cell? ⟨w1.heap.size, 2, none⟩ = some (.int .i64 0) := by rw [← hV]; ((repeat (first | (with_reducible assumption) | ((with_reducible refine c_set_same ?_); ((repeat (first | (with_reducible exact h_of (by assumption)) | (with_reducible assumption) | (with_reducible refine h_set ?_) | ((with_reducible refine h_alloc ?_ ?_); · (first | omega | (simp; done) | (simp; omega))) | ((with_reducible refine h_new ?_ ?_) <;> (first | omega | (simp; done) | (simp; omega))) | (with_reducible refine h_drew ?_) | (with_reducible refine h_drewN ?_) | ((with_reducible refine h_keep (by assumption) ?_ ?_); · (first | omega | (simp; done) | (simp; omega))))); done)) | ((with_reducible refine c_set_other ?_ ?_); · (first | omega | (simp; done) | (simp; omega))) | ((with_reducible refine c_alloc ?_ ?_); · (first | omega | (simp; done) | (simp; omega))) | ((with_reducible refine c_new ?_ ?_) <;> (first | omega | (simp; done) | (simp; omega))) | (with_reducible refine c_drew ?_) | (with_reducible refine c_drewN ?_) | ((with_reducible refine c_keep (by assumption) ?_ ?_); · (first | omega | (simp; done) | (simp; omega))))); done)
  have k7 : V.cell? ⟨w1.heap.size, 3, none⟩ = some (.int .i64 0) := by rw [← hV]; ((repeat (first | (with_reducible assumption) | ((with_reducible refine c_set_same ?_); ((repeat (first | (with_reducible exact h_of (by assumption)) | (with_reducible assumption) | (with_reducible refine h_set ?_) | ((with_reducible refine h_alloc ?_ ?_); · (first | omega | (simp; done) | (simp; omega))) | ((with_reducible refine h_new ?_ ?_) <;> (first | omega | (simp; done) | (simp; omega))) | (with_reducible refine h_drew ?_) | (with_reducible refine h_drewN ?_) | ((with_reducible refine h_keep (by assumption) ?_ ?_); · (first | omega | (simp; done) | (simp; omega))))); done)) | ((with_reducible refine c_set_other ?_ ?_); · (first | omega | (simp; done) | (simp; omega))) | ((with_reducible refine c_alloc ?_ ?_); · (first | omega | (simp; done) | (simp; omega))) | ((with_reducible refine c_new ?_ ?_) <;> (first | omega | (simp; done) | (simp; omega))) | (with_reducible refine c_drew ?_) | (with_reducible refine c_drewN ?_) | ((with_reducible refine c_keep (by assumption) ?_ ?_); · (first | omega | (simp; done) | (simp; omega))))); done)
  have k8 : V.cell? ⟨w2.heap.size, 0, none⟩ = some (.int .i64 n) := by rw [← hV]; ((repeat (first | (with_reducible assumption) | ((with_reducible refine c_set_same ?_); ((repeat (first | (with_reducible exact h_of (by assumption)) | (with_reducible assumption) | (with_reducible refine h_set ?_) | ((with_reducible refine h_alloc ?_ ?_); · (first | omega | (simp; done) | (simp; omega))) | ((with_reducible refine h_new ?_ ?_) <;> (first | omega | (simp; done) | (simp; omega))) | (with_reducible refine h_drew ?_) | (with_reducible refine h_drewN ?_) | ((with_reducible refine h_keep (by assumption) ?_ ?_); · (first | omega | (simp; done) | (simp; omega))))); done)) | ((with_reducible refine c_set_other ?_ ?_); · (first | omega | (simp; done) | (simp; omega))) | ((with_reducible refine c_alloc ?_ ?_); · (first | omega | (simp; done) | (simp; omega))) | ((with_reducible refine c_new ?_ ?_) <;> (first | omega | (simp; done) | (simp; omega))) | (with_reducible refine c_drew ?_) | (with_reducible refine c_drewN ?_) | ((with_reducible refine c_keep (by assumption) ?_ ?_); · (first | omega | (simp; done) | (simp; omega))))); done)
  have k9 : V.cell? ⟨w2.heap.size, 1, none⟩ = some (.int .i64 0) := by rw [← hV]; ((repeat (first | (with_reducible assumption) | ((with_reducible refine c_set_same ?_); ((repeat (first | (with_reducible exact h_of (by assumption)) | (with_reducible assumption) | (with_reducible refine h_set ?_) | ((with_reducible refine h_alloc ?_ ?_); · (first | omega | (simp; done) | (simp; omega))) | ((with_reducible refine h_new ?_ ?_) <;> (first | omega | (simp; done) | (simp; omega))) | (with_reducible refine h_drew ?_) | (with_reducible refine h_drewN ?_) | ((with_reducible refine h_keep (by assumption) ?_ ?_); · (first | omega | (simp; done) | (simp; omega))))); done)) | ((with_reducible refine c_set_other ?_ ?_); · (first | omega | (simp; done) | (simp; omega))) | ((with_reducible refine c_alloc ?_ ?_); · (first | omega | (simp; done) | (simp; omega))) | ((with_reducible refine c_new ?_ ?_) <;> (first | omega | (simp; done) | (simp; omega))) | (with_reducible refine c_drew ?_) | (with_reducible refine c_drewN ?_) | ((with_reducible refine c_keep (by assumption) ?_ ?_); · (first | omega | (simp; done) | (simp; omega))))); done)
  have k10 : V.cell? ⟨w2.heap.size, 2, none⟩ = some (.int .i64 0) := by rw [← hV]; ((repeat (first | (with_reducible assumption) | ((with_reducible refine c_set_same ?_); ((repeat (first | (with_reducible exact h_of (by assumption)) | (with_reducible assumption) | (with_reducible refine h_set ?_) | ((with_reducible refine h_alloc ?_ ?_); · (first | omega | (simp; done) | (simp; omega))) | ((with_reducible refine h_new ?_ ?_) <;> (first | omega | (simp; done) | (simp; omega))) | (with_reducible refine h_drew ?_) | (with_reducible refine h_drewN ?_) | ((with_reducible refine h_keep (by assumption) ?_ ?_); · (first | omega | (simp; done) | (simp; omega))))); done)) | ((with_reducible refine c_set_other ?_ ?_); · (first | omega | (simp; done) | (simp; omega))) | ((with_reducible refine c_alloc ?_ ?_); · (first | omega | (simp; done) | (simp; omega))) | ((with_reducible refine c_new ?_ ?_) <;> (first | omega | (simp; done) | (simp; omega))) | (with_reducible refine c_drew ?_) | (with_reducible refine c_drewN ?_) | ((with_reducible refine c_keep (by assumption) ?_ ?_); · (first | omega | (simp; done) | (simp; omega))))); done)
  have k11 : V.cell? ⟨w2.heap.size, 3, none⟩ = some (.int .i64 0) := by rw [← hV]; ((repeat (first | (with_reducible assumption) | ((with_reducible refine c_set_same ?_); ((repeat (first | (with_reducible exact h_of (by assumption)) | (with_reducible assumption) | (with_reducible refine h_set ?_) | ((with_reducible refine h_alloc ?_ ?_); · (first | omega | (simp; done) | (simp; omega))) | ((with_reducible refine h_new ?_ ?_) <;> (first | omega | (simp; done) | (simp; omega))) | (with_reducible refine h_drew ?_) | (with_reducible refine h_drewN ?_) | ((with_reducible refine h_keep (by assumption) ?_ ?_); · (first | omega | (simp; done) | (simp; omega))))); done)) | ((with_reducible refine c_set_other ?_ ?_); · (first | omega | (simp; done) | (simp; omega))) | ((with_reducible refine c_alloc ?_ ?_); · (first | omega | (simp; done) | (simp; omega))) | ((with_reducible refine c_new ?_ ?_) <;> (first | omega | (simp; done) | (simp; omega))) | (with_reducible refine c_drew ?_) | (with_reducible refine c_drewN ?_) | ((with_reducible refine c_keep (by assumption) ?_ ?_); · (first | omega | (simp; done) | (simp; omega))))); done)
  have hsV : w2.heap.size < V.heap.size := by rw [← hV]; simp
  have hB : Below w.heap.size w V := by rw [← hV]; ((repeat (first | (with_reducible exact Below.refl _ _) | (with_reducible assumption) | ((with_reducible refine b_set ?_ ?_); · (first | omega | (simp; done) | (simp; omega))) | ((with_reducible refine b_alloc ?_ ?_); · (first | omega | (simp; done) | (simp; omega))) | (with_reducible refine Below.drew ?_) | (with_reducible refine b_drewN ?_) | ((with_reducible refine b_call (by assumption) ?_ ?_); · (first | omega | (simp; done) | (simp; omega))))); done)
  clear hV hb hb2
  refine wp_region_held_drew (S := (fun W => Below V.heap.size V W ∧ True ∧ W.cell? ⟨w.heap.size, 0, none⟩ = some (.int .i64 a) ∧ W.cell? ⟨w.heap.size, 1, none⟩ = some (.int .i64 b) ∧ W.cell? ⟨w.heap.size, 2, none⟩ = some (.int .i64 c) ∧ W.cell? ⟨w.heap.size, 3, none⟩ = some (.int .i64 d) ∧ W.cell? ⟨w1.heap.size, 0, none⟩ = some (.int .i64 n) ∧ W.cell? ⟨w1.heap.size, 1, none⟩ = some (.int .i64 0) ∧ W.cell? ⟨w1.heap.size, 2, none⟩ = some (.int .i64 0) ∧ W.cell? ⟨w1.heap.size, 3, none⟩ = some (.int .i64 0) ∧ W.cell? ⟨w2.heap.size, 0, none⟩ = some (.int .i64 n) ∧ W.cell? ⟨w2.heap.size, 1, none⟩ = some (.int .i64 0) ∧ W.cell? ⟨w2.heap.size, 2, none⟩ = some (.int .i64 0) ∧ W.cell? ⟨w2.heap.size, 3, none⟩ = some (.int .i64 0))) (by kernel_rfl) ⟨(Below.refl _ _).drew, trivial, k0, k1, k2, k3, k4, k5, k6, k7, k8, k9, k10, k11⟩ (fun hHeld => ?_)
  refine wpAnyH_take (i := 0) (oi := ⟨some 23, _, _, _, _, _⟩) (v := ?v0) rfl (by kernel_rfl) (by kernel_rfl) (by kernel_rfl) (fun _ _ _ h => h) (Or.inl ⟨by rfl, ?y0⟩) (by assumption) ?r0
  case y0 => (intro w hSw; (try dsimp only at hSw); (try go_split_ands); go_simp); (try with_reducible rfl)
  case r0 =>
  (try simp only [Act.put, List.setIfInBounds_toArray, List.set_cons_zero, List.set_cons_succ])
  refine wpAnyH_take (i := 1) (oi := ⟨some 24, _, _, _, _, _⟩) (v := ?v1) rfl (by kernel_rfl) (by kernel_rfl) (by kernel_rfl) (fun _ _ _ h => h) (Or.inl ⟨by rfl, ?y1⟩) (by assumption) ?r1
  case y1 => (intro w hSw; (try dsimp only at hSw); (try go_split_ands); go_simp); (try with_reducible rfl)
  case r1 =>
  (try simp only [Act.put, List.setIfInBounds_toArray, List.set_cons_zero, List.set_cons_succ])
  refine wpAnyH_take (i := 2) (oi := ⟨some 25, _, _, _, _, _⟩) (v := ?v2) rfl (by kernel_rfl) (by kernel_rfl) (by kernel_rfl) (fun _ _ _ h => h) (Or.inl ⟨by rfl, ?y2⟩) (by assumption) ?r2
  case y2 => (intro w hSw; (try dsimp only at hSw); (try go_split_ands); go_simp); (try with_reducible rfl)
  case r2 =>
  (try simp only [Act.put, List.setIfInBounds_toArray, List.set_cons_zero, List.set_cons_succ])
  refine wpAnyH_take (i := 3) (oi := ⟨some 26, _, _, _, _, _⟩) (v := ?v3) rfl (by kernel_rfl) (by kernel_rfl) (by kernel_rfl) (fun _ _ _ h => h) (Or.inl ⟨by rfl, ?y3⟩) (by assumption) ?r3
  case y3 => (intro w hSw; (try dsimp only at hSw); (try go_split_ands); go_simp); (try with_reducible rfl)
  case r3 =>
  (try simp only [Act.put, List.setIfInBounds_toArray, List.set_cons_zero, List.set_cons_succ])
  refine wpAnyH_take (i := 4) (oi := ⟨some 27, _, _, _, _, _⟩) (v := ?v4) rfl (by kernel_rfl) (by kernel_rfl) (by kernel_rfl) (fun _ _ _ h => h) (Or.inl ⟨by rfl, ?y4⟩) (by assumption) ?r4
  case y4 => (intro w hSw; (try dsimp only at hSw); (try go_split_ands); go_simp); (try with_reducible rfl)
  case r4 =>
  (try simp only [Act.put, List.setIfInBounds_toArray, List.set_cons_zero, List.set_cons_succ])
  refine wpAnyH_take (i := 5) (oi := ⟨some 28, _, _, _, _, _⟩) (v := ?v5) rfl (by kernel_rfl) (by kernel_rfl) (by kernel_rfl) (fun _ _ _ h => h) (Or.inl ⟨by rfl, ?y5⟩) (by assumption) ?r5
  case y5 => (intro w hSw; (try dsimp only at hSw); (try go_split_ands); go_simp); (try with_reducible rfl)
  case r5 =>
  (try simp only [Act.put, List.setIfInBounds_toArray, List.set_cons_zero, List.set_cons_succ])
  refine wpAnyH_take (i := 6) (oi := ⟨some 29, _, _, _, _, _⟩) (v := ?v6) rfl (by kernel_rfl) (by kernel_rfl) (by kernel_rfl) (fun _ _ _ h => h) (Or.inl ⟨by rfl, ?y6⟩) (by assumption) ?r6
  case y6 => (intro w hSw; (try dsimp only at hSw); (try go_split_ands); go_simp); (try with_reducible rfl)
  case r6 =>
  (try simp only [Act.put, List.setIfInBounds_toArray, List.set_cons_zero, List.set_cons_succ])
  refine wpAnyH_take (i := 7) (oi := ⟨some 30, _, _, _, _, _⟩) (v := ?v7) rfl (by kernel_rfl) (by kernel_rfl) (by kernel_rfl) (fun _ _ _ h => h) (Or.inl ⟨by rfl, ?y7⟩) (by assumption) ?r7
  case y7 => (intro w hSw; (try dsimp only at hSw); (try go_split_ands); go_simp); (try with_reducible rfl)
  case r7 =>
  (try simp only [Act.put, List.setIfInBounds_toArray, List.set_cons_zero, List.set_cons_succ])
  refine wpAnyH_take (i := 8) (oi := ⟨some 31, _, _, _, _, _⟩) (v := ?v8) rfl (by kernel_rfl) (by kernel_rfl) (by kernel_rfl) (fun _ _ _ h => h) (Or.inl ⟨by rfl, ?y8⟩) (by assumption) ?r8
  case y8 => (intro w hSw; (try dsimp only at hSw); (try go_split_ands); go_simp); (try with_reducible rfl)
  case r8 =>
  (try simp only [Act.put, List.setIfInBounds_toArray, List.set_cons_zero, List.set_cons_succ])
  refine wpAnyH_take (i := 9) (oi := ⟨some 32, _, _, _, _, _⟩) (v := ?v9) rfl (by kernel_rfl) (by kernel_rfl) (by kernel_rfl) (fun _ _ _ h => h) (Or.inl ⟨by rfl, ?y9⟩) (by assumption) ?r9
  case y9 => (intro w hSw; (try dsimp only at hSw); (try go_split_ands); go_simp); (try with_reducible rfl)
  case r9 =>
  (try simp only [Act.put, List.setIfInBounds_toArray, List.set_cons_zero, List.set_cons_succ])
  refine wpAnyH_take (i := 11) (oi := ⟨some 34, _, _, _, _, _⟩) (v := ?v11) rfl (by kernel_rfl) (by kernel_rfl) (by kernel_rfl) (fun _ _ _ h => h) (Or.inl ⟨by rfl, ?y11⟩) (by assumption) ?r11
  case y11 => (intro w hSw; (try dsimp only at hSw); (try go_split_ands); go_simp); (try with_reducible rfl)
  case r11 =>
  (try simp only [Act.put, List.setIfInBounds_toArray, List.set_cons_zero, List.set_cons_succ])
  refine wpAnyH_ready (rs := [10]) (by kernel_rfl) (by simp) ?_
  refine AllReadyH.cons (o := ⟨some 33, _, _, _, _, _⟩) rfl (fun K hK => ?_) AllReadyH.nil
  go_simp
  refine (purseIs _ _ _ _ _).mono ?_; rintro e w3 ⟨rfl, hb3⟩
  go_wp2_with fail
  refine hK.out _ _ (by have hh := Below.trans hHeld.1 (Below.mono hb3 (Below.size hHeld.1)); exact ⟨hh, trivial, bkeep hh k0 (by omega), bkeep hh k1 (by omega), bkeep hh k2 (by omega), bkeep hh k3 (by omega), bkeep hh k4 (by omega), bkeep hh k5 (by omega), bkeep hh k6 (by omega), bkeep hh k7 (by omega), bkeep hh k8 (by omega), bkeep hh k9 (by omega), bkeep hh k10 (by omega), bkeep hh k11 (by omega)⟩) (fun hHeld => ?_)
  clear hK K
  (try simp only [Act.put, List.setIfInBounds_toArray, List.set_cons_zero, List.set_cons_succ])
  refine wpAnyH_ready (rs := [12]) (by kernel_rfl) (by simp) ?_
  refine AllReadyH.cons (o := ⟨some 35, _, _, _, _, _⟩) rfl (fun K hK => ?_) AllReadyH.nil
  go_simp
  refine (refPIs _ _ _ _ _).mono ?_; rintro e w3 ⟨rfl, hb3⟩
  go_wp2_with fail
  refine hK.out _ _ (by have hh := Below.trans hHeld.1 (Below.mono hb3 (Below.size hHeld.1)); exact ⟨hh, trivial, bkeep hh k0 (by omega), bkeep hh k1 (by omega), bkeep hh k2 (by omega), bkeep hh k3 (by omega), bkeep hh k4 (by omega), bkeep hh k5 (by omega), bkeep hh k6 (by omega), bkeep hh k7 (by omega), bkeep hh k8 (by omega), bkeep hh k9 (by omega), bkeep hh k10 (by omega), bkeep hh k11 (by omega)⟩) (fun hHeld => ?_)
  clear hK K
  (try simp only [Act.put, List.setIfInBounds_toArray, List.set_cons_zero, List.set_cons_succ])
  refine wpAnyH_take (i := 13) (oi := ⟨some 36, _, _, _, _, _⟩) (v := ?v13) rfl (by kernel_rfl) (by kernel_rfl) (by kernel_rfl) (fun _ _ _ h => h) (Or.inl ⟨by rfl, ?y13⟩) (by assumption) ?r13
  case y13 => (intro w hSw; (try dsimp only at hSw); (try go_split_ands); go_simp); (try with_reducible rfl)
  case r13 =>
  (try simp only [Act.put, List.setIfInBounds_toArray, List.set_cons_zero, List.set_cons_succ])
  refine wpAnyH_take (i := 14) (oi := ⟨some 37, _, _, _, _, _⟩) (v := ?v14) rfl (by kernel_rfl) (by kernel_rfl) (by kernel_rfl) (fun _ _ _ h => h) (Or.inl ⟨by rfl, ?y14⟩) (by assumption) ?r14
  case y14 => (intro w hSw; (try dsimp only at hSw); (try go_split_ands); go_simp); (try with_reducible rfl)
  case r14 =>
  (try simp only [Act.put, List.setIfInBounds_toArray, List.set_cons_zero, List.set_cons_succ])
  refine wpAnyH_take (i := 15) (oi := ⟨some 38, _, _, _, _, _⟩) (v := ?v15) rfl (by kernel_rfl) (by kernel_rfl) (by kernel_rfl) (fun _ _ _ h => h) (Or.inl ⟨by rfl, ?y15⟩) (by assumption) ?r15
  case y15 => (intro w hSw; (try dsimp only at hSw); (try go_split_ands); go_simp); (try with_reducible rfl)
  case r15 =>
  (try simp only [Act.put, List.setIfInBounds_toArray, List.set_cons_zero, List.set_cons_succ])
  refine wpAnyH_ready (rs := [16]) (by kernel_rfl) (by simp) ?_
  refine AllReadyH.cons (o := ⟨some 39, _, _, _, _, _⟩) rfl (fun K hK => ?_) AllReadyH.nil
  go_simp
  refine (purseKnown _).mono ?_; rintro e w3 ⟨rfl, hb3⟩
  go_wp2_with fail
  refine hK.out _ _ (by have hh := Below.trans hHeld.1 (Below.mono hb3 (Below.size hHeld.1)); exact ⟨hh, trivial, bkeep hh k0 (by omega), bkeep hh k1 (by omega), bkeep hh k2 (by omega), bkeep hh k3 (by omega), bkeep hh k4 (by omega), bkeep hh k5 (by omega), bkeep hh k6 (by omega), bkeep hh k7 (by omega), bkeep hh k8 (by omega), bkeep hh k9 (by omega), bkeep hh k10 (by omega), bkeep hh k11 (by omega)⟩) (fun hHeld => ?_)
  clear hK K
  (try simp only [Act.put, List.setIfInBounds_toArray, List.set_cons_zero, List.set_cons_succ])
  refine wpAnyH_take (i := 17) (oi := ⟨some 40, _, _, _, _, _⟩) (v := ?v17) rfl (by kernel_rfl) (by kernel_rfl) (by kernel_rfl) (fun _ _ _ h => h) (Or.inl ⟨by rfl, ?y17⟩) (by assumption) ?r17
  case y17 => (intro w hSw; (try dsimp only at hSw); (try go_split_ands); go_simp); (try with_reducible rfl)
  case r17 =>
  (try simp only [Act.put, List.setIfInBounds_toArray, List.set_cons_zero, List.set_cons_succ])
  refine wpAnyH_take (i := 18) (oi := ⟨some 6, _, _, _, _, _⟩) (v := ?v18) rfl (by kernel_rfl) (by kernel_rfl) (by kernel_rfl) (fun _ _ _ h => h) (Or.inl ⟨by rfl, ?y18⟩) (by assumption) ?r18
  case y18 => (intro w hSw; (try dsimp only at hSw); (try go_split_ands); go_simp); (try with_reducible rfl)
  case r18 =>
  (try simp only [Act.put, List.setIfInBounds_toArray, List.set_cons_zero, List.set_cons_succ])
  refine wpAnyH_done (by kernel_rfl) ?_ _
  go_wp2_with fail
  go_ret
  exact ⟨rfl, hB.trans (Below.mono (And.left (by assumption)) hB.size)⟩

set_option maxHeartbeats 2000000 in
theorem walkOne_1 (n a b c d : Int) (w : World) (hn : heldB n = true) :
    Calls Try.prog 3 #[.int .i64 1, .int .i64 n, .agg #[.int .i64 a, .int .i64 b, .int .i64 c, .int .i64 d]] w fun z w' => z = .returned (.bool true) ∧ Below w.heap.size w w' := by
  go_enter Try.func3, Try.ntmps3
  go_wp2_with fail
  refine (purseOne_1 _ _ hn).mono ?_
  rintro z w1 ⟨rfl, hb⟩
  have hs := hb.size; (try simp at hs)
  obtain ⟨hc, hf⟩ := bcell hb
  go_wp2_with fail
  refine (refOne_1 _ _ hn).mono ?_
  rintro z w2 ⟨rfl, hb2⟩
  have hs2 := hb2.size; (try simp at hs2)
  clear hc hf
  go_wp2_with fail
  generalize hV : (w2.alloc _ : World) = V
  have k0 : V.cell? ⟨w.heap.size, 0, none⟩ = some (.int .i64 a) := by rw [← hV]; ((repeat (first | (with_reducible assumption) | ((with_reducible refine c_set_same ?_); ((repeat (first | (with_reducible exact h_of (by assumption)) | (with_reducible assumption) | (with_reducible refine h_set ?_) | ((with_reducible refine h_alloc ?_ ?_); · (first | omega | (simp; done) | (simp; omega))) | ((with_reducible refine h_new ?_ ?_) <;> (first | omega | (simp; done) | (simp; omega))) | (with_reducible refine h_drew ?_) | (with_reducible refine h_drewN ?_) | ((with_reducible refine h_keep (by assumption) ?_ ?_); · (first | omega | (simp; done) | (simp; omega))))); done)) | ((with_reducible refine c_set_other ?_ ?_); · (first | omega | (simp; done) | (simp; omega))) | ((with_reducible refine c_alloc ?_ ?_); · (first | omega | (simp; done) | (simp; omega))) | ((with_reducible refine c_new ?_ ?_) <;> (first | omega | (simp; done) | (simp; omega))) | (with_reducible refine c_drew ?_) | (with_reducible refine c_drewN ?_) | ((with_reducible refine c_keep (by assumption) ?_ ?_); · (first | omega | (simp; done) | (simp; omega))))); done)
  have k1 : V.cell? ⟨w.heap.size, 1, none⟩ = some (.int .i64 b) := by rw [← hV]; ((repeat (first | (with_reducible assumption) | ((with_reducible refine c_set_same ?_); ((repeat (first | (with_reducible exact h_of (by assumption)) | (with_reducible assumption) | (with_reducible refine h_set ?_) | ((with_reducible refine h_alloc ?_ ?_); · (first | omega | (simp; done) | (simp; omega))) | ((with_reducible refine h_new ?_ ?_) <;> (first | omega | (simp; done) | (simp; omega))) | (with_reducible refine h_drew ?_) | (with_reducible refine h_drewN ?_) | ((with_reducible refine h_keep (by assumption) ?_ ?_); · (first | omega | (simp; done) | (simp; omega))))); done)) | ((with_reducible refine c_set_other ?_ ?_); · (first | omega | (simp; done) | (simp; omega))) | ((with_reducible refine c_alloc ?_ ?_); · (first | omega | (simp; done) | (simp; omega))) | ((with_reducible refine c_new ?_ ?_) <;> (first | omega | (simp; done) | (simp; omega))) | (with_reducible refine c_drew ?_) | (with_reducible refine c_drewN ?_) | ((with_reducible refine c_keep (by assumption) ?_ ?_); · (first | omega | (simp; done) | (simp; omega))))); done)
  have k2 : V.cell? ⟨w.heap.size, 2, none⟩ = some (.int .i64 c) := by rw [← hV]; ((repeat (first | (with_reducible assumption) | ((with_reducible refine c_set_same ?_); ((repeat (first | (with_reducible exact h_of (by assumption)) | (with_reducible assumption) | (with_reducible refine h_set ?_) | ((with_reducible refine h_alloc ?_ ?_); · (first | omega | (simp; done) | (simp; omega))) | ((with_reducible refine h_new ?_ ?_) <;> (first | omega | (simp; done) | (simp; omega))) | (with_reducible refine h_drew ?_) | (with_reducible refine h_drewN ?_) | ((with_reducible refine h_keep (by assumption) ?_ ?_); · (first | omega | (simp; done) | (simp; omega))))); done)) | ((with_reducible refine c_set_other ?_ ?_); · (first | omega | (simp; done) | (simp; omega))) | ((with_reducible refine c_alloc ?_ ?_); · (first | omega | (simp; done) | (simp; omega))) | ((with_reducible refine c_new ?_ ?_) <;> (first | omega | (simp; done) | (simp; omega))) | (with_reducible refine c_drew ?_) | (with_reducible refine c_drewN ?_) | ((with_reducible refine c_keep (by assumption) ?_ ?_); · (first | omega | (simp; done) | (simp; omega))))); done)
  have k3 : V.cell? ⟨w.heap.size, 3, none⟩ = some (.int .i64 d) := by rw [← hV]; ((repeat (first | (with_reducible assumption) | ((with_reducible refine c_set_same ?_); ((repeat (first | (with_reducible exact h_of (by assumption)) | (with_reducible assumption) | (with_reducible refine h_set ?_) | ((with_reducible refine h_alloc ?_ ?_); · (first | omega | (simp; done) | (simp; omega))) | ((with_reducible refine h_new ?_ ?_) <;> (first | omega | (simp; done) | (simp; omega))) | (with_reducible refine h_drew ?_) | (with_reducible refine h_drewN ?_) | ((with_reducible refine h_keep (by assumption) ?_ ?_); · (first | omega | (simp; done) | (simp; omega))))); done)) | ((with_reducible refine c_set_other ?_ ?_); · (first | omega | (simp; done) | (simp; omega))) | ((with_reducible refine c_alloc ?_ ?_); · (first | omega | (simp; done) | (simp; omega))) | ((with_reducible refine c_new ?_ ?_) <;> (first | omega | (simp; done) | (simp; omega))) | (with_reducible refine c_drew ?_) | (with_reducible refine c_drewN ?_) | ((with_reducible refine c_keep (by assumption) ?_ ?_); · (first | omega | (simp; done) | (simp; omega))))); done)
  have k4 : V.cell? ⟨w1.heap.size, 0, none⟩ = some (.int .i64 0) := by rw [← hV]; ((repeat (first | (with_reducible assumption) | ((with_reducible refine c_set_same ?_); ((repeat (first | (with_reducible exact h_of (by assumption)) | (with_reducible assumption) | (with_reducible refine h_set ?_) | ((with_reducible refine h_alloc ?_ ?_); · (first | omega | (simp; done) | (simp; omega))) | ((with_reducible refine h_new ?_ ?_) <;> (first | omega | (simp; done) | (simp; omega))) | (with_reducible refine h_drew ?_) | (with_reducible refine h_drewN ?_) | ((with_reducible refine h_keep (by assumption) ?_ ?_); · (first | omega | (simp; done) | (simp; omega))))); done)) | ((with_reducible refine c_set_other ?_ ?_); · (first | omega | (simp; done) | (simp; omega))) | ((with_reducible refine c_alloc ?_ ?_); · (first | omega | (simp; done) | (simp; omega))) | ((with_reducible refine c_new ?_ ?_) <;> (first | omega | (simp; done) | (simp; omega))) | (with_reducible refine c_drew ?_) | (with_reducible refine c_drewN ?_) | ((with_reducible refine c_keep (by assumption) ?_ ?_); · (first | omega | (simp; done) | (simp; omega))))); done)
  have k5 : V.cell? ⟨w1.heap.size, 1, none⟩ = some (.int .i64 n) := by rw [← hV]; ((repeat (first | (with_reducible assumption) | ((with_reducible refine c_set_same ?_); ((repeat (first | (with_reducible exact h_of (by assumption)) | (with_reducible assumption) | (with_reducible refine h_set ?_) | ((with_reducible refine h_alloc ?_ ?_); · (first | omega | (simp; done) | (simp; omega))) | ((with_reducible refine h_new ?_ ?_) <;> (first | omega | (simp; done) | (simp; omega))) | (with_reducible refine h_drew ?_) | (with_reducible refine h_drewN ?_) | ((with_reducible refine h_keep (by assumption) ?_ ?_); · (first | omega | (simp; done) | (simp; omega))))); done)) | ((with_reducible refine c_set_other ?_ ?_); · (first | omega | (simp; done) | (simp; omega))) | ((with_reducible refine c_alloc ?_ ?_); · (first | omega | (simp; done) | (simp; omega))) | ((with_reducible refine c_new ?_ ?_) <;> (first | omega | (simp; done) | (simp; omega))) | (with_reducible refine c_drew ?_) | (with_reducible refine c_drewN ?_) | ((with_reducible refine c_keep (by assumption) ?_ ?_); · (first | omega | (simp; done) | (simp; omega))))); done)
  have k6 : V.cell? ⟨w1.heap.size, 2, none⟩ = some (.int .i64 0) := by rw [← hV]; ((repeat (first | (with_reducible assumption) | ((with_reducible refine c_set_same ?_); ((repeat (first | (with_reducible exact h_of (by assumption)) | (with_reducible assumption) | (with_reducible refine h_set ?_) | ((with_reducible refine h_alloc ?_ ?_); · (first | omega | (simp; done) | (simp; omega))) | ((with_reducible refine h_new ?_ ?_) <;> (first | omega | (simp; done) | (simp; omega))) | (with_reducible refine h_drew ?_) | (with_reducible refine h_drewN ?_) | ((with_reducible refine h_keep (by assumption) ?_ ?_); · (first | omega | (simp; done) | (simp; omega))))); done)) | ((with_reducible refine c_set_other ?_ ?_); · (first | omega | (simp; done) | (simp; omega))) | ((with_reducible refine c_alloc ?_ ?_); · (first | omega | (simp; done) | (simp; omega))) | ((with_reducible refine c_new ?_ ?_) <;> (first | omega | (simp; done) | (simp; omega))) | (with_reducible refine c_drew ?_) | (with_reducible refine c_drewN ?_) | ((with_reducible refine c_keep (by assumption) ?_ ?_); · (first | omega | (simp; done) | (simp; omega))))); done)
  have k7 : V.cell? ⟨w1.heap.size, 3, none⟩ = some (.int .i64 0) := by rw [← hV]; ((repeat (first | (with_reducible assumption) | ((with_reducible refine c_set_same ?_); ((repeat (first | (with_reducible exact h_of (by assumption)) | (with_reducible assumption) | (with_reducible refine h_set ?_) | ((with_reducible refine h_alloc ?_ ?_); · (first | omega | (simp; done) | (simp; omega))) | ((with_reducible refine h_new ?_ ?_) <;> (first | omega | (simp; done) | (simp; omega))) | (with_reducible refine h_drew ?_) | (with_reducible refine h_drewN ?_) | ((with_reducible refine h_keep (by assumption) ?_ ?_); · (first | omega | (simp; done) | (simp; omega))))); done)) | ((with_reducible refine c_set_other ?_ ?_); · (first | omega | (simp; done) | (simp; omega))) | ((with_reducible refine c_alloc ?_ ?_); · (first | omega | (simp; done) | (simp; omega))) | ((with_reducible refine c_new ?_ ?_) <;> (first | omega | (simp; done) | (simp; omega))) | (with_reducible refine c_drew ?_) | (with_reducible refine c_drewN ?_) | ((with_reducible refine c_keep (by assumption) ?_ ?_); · (first | omega | (simp; done) | (simp; omega))))); done)
  have k8 : V.cell? ⟨w2.heap.size, 0, none⟩ = some (.int .i64 0) := by rw [← hV]; ((repeat (first | (with_reducible assumption) | ((with_reducible refine c_set_same ?_); ((repeat (first | (with_reducible exact h_of (by assumption)) | (with_reducible assumption) | (with_reducible refine h_set ?_) | ((with_reducible refine h_alloc ?_ ?_); · (first | omega | (simp; done) | (simp; omega))) | ((with_reducible refine h_new ?_ ?_) <;> (first | omega | (simp; done) | (simp; omega))) | (with_reducible refine h_drew ?_) | (with_reducible refine h_drewN ?_) | ((with_reducible refine h_keep (by assumption) ?_ ?_); · (first | omega | (simp; done) | (simp; omega))))); done)) | ((with_reducible refine c_set_other ?_ ?_); · (first | omega | (simp; done) | (simp; omega))) | ((with_reducible refine c_alloc ?_ ?_); · (first | omega | (simp; done) | (simp; omega))) | ((with_reducible refine c_new ?_ ?_) <;> (first | omega | (simp; done) | (simp; omega))) | (with_reducible refine c_drew ?_) | (with_reducible refine c_drewN ?_) | ((with_reducible refine c_keep (by assumption) ?_ ?_); · (first | omega | (simp; done) | (simp; omega))))); done)
  have k9 : V.cell? ⟨w2.heap.size, 1, none⟩ = some (.int .i64 n) := by rw [← hV]; ((repeat (first | (with_reducible assumption) | ((with_reducible refine c_set_same ?_); ((repeat (first | (with_reducible exact h_of (by assumption)) | (with_reducible assumption) | (with_reducible refine h_set ?_) | ((with_reducible refine h_alloc ?_ ?_); · (first | omega | (simp; done) | (simp; omega))) | ((with_reducible refine h_new ?_ ?_) <;> (first | omega | (simp; done) | (simp; omega))) | (with_reducible refine h_drew ?_) | (with_reducible refine h_drewN ?_) | ((with_reducible refine h_keep (by assumption) ?_ ?_); · (first | omega | (simp; done) | (simp; omega))))); done)) | ((with_reducible refine c_set_other ?_ ?_); · (first | omega | (simp; done) | (simp; omega))) | ((with_reducible refine c_alloc ?_ ?_); · (first | omega | (simp; done) | (simp; omega))) | ((with_reducible refine c_new ?_ ?_) <;> (first | omega | (simp; done) | (simp; omega))) | (with_reducible refine c_drew ?_) | (with_reducible refine c_drewN ?_) | ((with_reducible refine c_keep (by assumption) ?_ ?_); · (first | omega | (simp; done) | (simp; omega))))); done)
  have k10 : V.cell? ⟨w2.heap.size, 2, none⟩ = some (.int .i64 0) := by rw [← hV]; ((repeat (first | (with_reducible assumption) | ((with_reducible refine c_set_same ?_); ((repeat (first | (with_reducible exact h_of (by assumption)) | (with_reducible assumption) | (with_reducible refine h_set ?_) | ((with_reducible refine h_alloc ?_ ?_); · (first | omega | (simp; done) | (simp; omega))) | ((with_reducible refine h_new ?_ ?_) <;> (first | omega | (simp; done) | (simp; omega))) | (with_reducible refine h_drew ?_) | (with_reducible refine h_drewN ?_) | ((with_reducible refine h_keep (by assumption) ?_ ?_); · (first | omega | (simp; done) | (simp; omega))))); done)) | ((with_reducible refine c_set_other ?_ ?_); · (first | omega | (simp; done) | (simp; omega))) | ((with_reducible refine c_alloc ?_ ?_); · (first | omega | (simp; done) | (simp; omega))) | ((with_reducible refine c_new ?_ ?_) <;> (first | omega | (simp; done) | (simp; omega))) | (with_reducible refine c_drew ?_) | (with_reducible refine c_drewN ?_) | ((with_reducible refine c_keep (by assumption) ?_ ?_); · (first | omega | (simp; done) | (simp; omega))))); done)
  have k11 : V.cell? ⟨w2.heap.size, 3, none⟩ = some (.int .i64 0) := by rw [← hV]; ((repeat (first | (with_reducible assumption) | ((with_reducible refine c_set_same ?_); ((repeat (first | (with_reducible exact h_of (by assumption)) | (with_reducible assumption) | (with_reducible refine h_set ?_) | ((with_reducible refine h_alloc ?_ ?_); · (first | omega | (simp; done) | (simp; omega))) | ((with_reducible refine h_new ?_ ?_) <;> (first | omega | (simp; done) | (simp; omega))) | (with_reducible refine h_drew ?_) | (with_reducible refine h_drewN ?_) | ((with_reducible refine h_keep (by assumption) ?_ ?_); · (first | omega | (simp; done) | (simp; omega))))); done)) | ((with_reducible refine c_set_other ?_ ?_); · (first | omega | (simp; done) | (simp; omega))) | ((with_reducible refine c_alloc ?_ ?_); · (first | omega | (simp; done) | (simp; omega))) | ((with_reducible refine c_new ?_ ?_) <;> (first | omega | (simp; done) | (simp; omega))) | (with_reducible refine c_drew ?_) | (with_reducible refine c_drewN ?_) | ((with_reducible refine c_keep (by assumption) ?_ ?_); · (first | omega | (simp; done) | (simp; omega))))); done)
  have hsV : w2.heap.size < V.heap.size := by rw [← hV]; simp
  have hB : Below w.heap.size w V := by rw [← hV]; ((repeat (first | (with_reducible exact Below.refl _ _) | (with_reducible assumption) | ((with_reducible refine b_set ?_ ?_); · (first | omega | (simp; done) | (simp; omega))) | ((with_reducible refine b_alloc ?_ ?_); · (first | omega | (simp; done) | (simp; omega))) | (with_reducible refine Below.drew ?_) | (with_reducible refine b_drewN ?_) | ((with_reducible refine b_call (by assumption) ?_ ?_); · (first | omega | (simp; done) | (simp; omega))))); done)
  clear hV hb hb2
  refine wp_region_held_drew (S := (fun W => Below V.heap.size V W ∧ True ∧ W.cell? ⟨w.heap.size, 0, none⟩ = some (.int .i64 a) ∧ W.cell? ⟨w.heap.size, 1, none⟩ = some (.int .i64 b) ∧ W.cell? ⟨w.heap.size, 2, none⟩ = some (.int .i64 c) ∧ W.cell? ⟨w.heap.size, 3, none⟩ = some (.int .i64 d) ∧ W.cell? ⟨w1.heap.size, 0, none⟩ = some (.int .i64 0) ∧ W.cell? ⟨w1.heap.size, 1, none⟩ = some (.int .i64 n) ∧ W.cell? ⟨w1.heap.size, 2, none⟩ = some (.int .i64 0) ∧ W.cell? ⟨w1.heap.size, 3, none⟩ = some (.int .i64 0) ∧ W.cell? ⟨w2.heap.size, 0, none⟩ = some (.int .i64 0) ∧ W.cell? ⟨w2.heap.size, 1, none⟩ = some (.int .i64 n) ∧ W.cell? ⟨w2.heap.size, 2, none⟩ = some (.int .i64 0) ∧ W.cell? ⟨w2.heap.size, 3, none⟩ = some (.int .i64 0))) (by kernel_rfl) ⟨(Below.refl _ _).drew, trivial, k0, k1, k2, k3, k4, k5, k6, k7, k8, k9, k10, k11⟩ (fun hHeld => ?_)
  refine wpAnyH_take (i := 0) (oi := ⟨some 23, _, _, _, _, _⟩) (v := ?v0) rfl (by kernel_rfl) (by kernel_rfl) (by kernel_rfl) (fun _ _ _ h => h) (Or.inl ⟨by rfl, ?y0⟩) (by assumption) ?r0
  case y0 => (intro w hSw; (try dsimp only at hSw); (try go_split_ands); go_simp); (try with_reducible rfl)
  case r0 =>
  (try simp only [Act.put, List.setIfInBounds_toArray, List.set_cons_zero, List.set_cons_succ])
  refine wpAnyH_take (i := 1) (oi := ⟨some 24, _, _, _, _, _⟩) (v := ?v1) rfl (by kernel_rfl) (by kernel_rfl) (by kernel_rfl) (fun _ _ _ h => h) (Or.inl ⟨by rfl, ?y1⟩) (by assumption) ?r1
  case y1 => (intro w hSw; (try dsimp only at hSw); (try go_split_ands); go_simp); (try with_reducible rfl)
  case r1 =>
  (try simp only [Act.put, List.setIfInBounds_toArray, List.set_cons_zero, List.set_cons_succ])
  refine wpAnyH_take (i := 2) (oi := ⟨some 25, _, _, _, _, _⟩) (v := ?v2) rfl (by kernel_rfl) (by kernel_rfl) (by kernel_rfl) (fun _ _ _ h => h) (Or.inl ⟨by rfl, ?y2⟩) (by assumption) ?r2
  case y2 => (intro w hSw; (try dsimp only at hSw); (try go_split_ands); go_simp); (try with_reducible rfl)
  case r2 =>
  (try simp only [Act.put, List.setIfInBounds_toArray, List.set_cons_zero, List.set_cons_succ])
  refine wpAnyH_take (i := 3) (oi := ⟨some 26, _, _, _, _, _⟩) (v := ?v3) rfl (by kernel_rfl) (by kernel_rfl) (by kernel_rfl) (fun _ _ _ h => h) (Or.inl ⟨by rfl, ?y3⟩) (by assumption) ?r3
  case y3 => (intro w hSw; (try dsimp only at hSw); (try go_split_ands); go_simp); (try with_reducible rfl)
  case r3 =>
  (try simp only [Act.put, List.setIfInBounds_toArray, List.set_cons_zero, List.set_cons_succ])
  refine wpAnyH_take (i := 4) (oi := ⟨some 27, _, _, _, _, _⟩) (v := ?v4) rfl (by kernel_rfl) (by kernel_rfl) (by kernel_rfl) (fun _ _ _ h => h) (Or.inl ⟨by rfl, ?y4⟩) (by assumption) ?r4
  case y4 => (intro w hSw; (try dsimp only at hSw); (try go_split_ands); go_simp); (try with_reducible rfl)
  case r4 =>
  (try simp only [Act.put, List.setIfInBounds_toArray, List.set_cons_zero, List.set_cons_succ])
  refine wpAnyH_take (i := 5) (oi := ⟨some 28, _, _, _, _, _⟩) (v := ?v5) rfl (by kernel_rfl) (by kernel_rfl) (by kernel_rfl) (fun _ _ _ h => h) (Or.inl ⟨by rfl, ?y5⟩) (by assumption) ?r5
  case y5 => (intro w hSw; (try dsimp only at hSw); (try go_split_ands); go_simp); (try with_reducible rfl)
  case r5 =>
  (try simp only [Act.put, List.setIfInBounds_toArray, List.set_cons_zero, List.set_cons_succ])
  refine wpAnyH_take (i := 6) (oi := ⟨some 29, _, _, _, _, _⟩) (v := ?v6) rfl (by kernel_rfl) (by kernel_rfl) (by kernel_rfl) (fun _ _ _ h => h) (Or.inl ⟨by rfl, ?y6⟩) (by assumption) ?r6
  case y6 => (intro w hSw; (try dsimp only at hSw); (try go_split_ands); go_simp); (try with_reducible rfl)
  case r6 =>
  (try simp only [Act.put, List.setIfInBounds_toArray, List.set_cons_zero, List.set_cons_succ])
  refine wpAnyH_take (i := 7) (oi := ⟨some 30, _, _, _, _, _⟩) (v := ?v7) rfl (by kernel_rfl) (by kernel_rfl) (by kernel_rfl) (fun _ _ _ h => h) (Or.inl ⟨by rfl, ?y7⟩) (by assumption) ?r7
  case y7 => (intro w hSw; (try dsimp only at hSw); (try go_split_ands); go_simp); (try with_reducible rfl)
  case r7 =>
  (try simp only [Act.put, List.setIfInBounds_toArray, List.set_cons_zero, List.set_cons_succ])
  refine wpAnyH_take (i := 8) (oi := ⟨some 31, _, _, _, _, _⟩) (v := ?v8) rfl (by kernel_rfl) (by kernel_rfl) (by kernel_rfl) (fun _ _ _ h => h) (Or.inl ⟨by rfl, ?y8⟩) (by assumption) ?r8
  case y8 => (intro w hSw; (try dsimp only at hSw); (try go_split_ands); go_simp); (try with_reducible rfl)
  case r8 =>
  (try simp only [Act.put, List.setIfInBounds_toArray, List.set_cons_zero, List.set_cons_succ])
  refine wpAnyH_take (i := 9) (oi := ⟨some 32, _, _, _, _, _⟩) (v := ?v9) rfl (by kernel_rfl) (by kernel_rfl) (by kernel_rfl) (fun _ _ _ h => h) (Or.inl ⟨by rfl, ?y9⟩) (by assumption) ?r9
  case y9 => (intro w hSw; (try dsimp only at hSw); (try go_split_ands); go_simp); (try with_reducible rfl)
  case r9 =>
  (try simp only [Act.put, List.setIfInBounds_toArray, List.set_cons_zero, List.set_cons_succ])
  refine wpAnyH_take (i := 11) (oi := ⟨some 34, _, _, _, _, _⟩) (v := ?v11) rfl (by kernel_rfl) (by kernel_rfl) (by kernel_rfl) (fun _ _ _ h => h) (Or.inl ⟨by rfl, ?y11⟩) (by assumption) ?r11
  case y11 => (intro w hSw; (try dsimp only at hSw); (try go_split_ands); go_simp); (try with_reducible rfl)
  case r11 =>
  (try simp only [Act.put, List.setIfInBounds_toArray, List.set_cons_zero, List.set_cons_succ])
  refine wpAnyH_ready (rs := [10]) (by kernel_rfl) (by simp) ?_
  refine AllReadyH.cons (o := ⟨some 33, _, _, _, _, _⟩) rfl (fun K hK => ?_) AllReadyH.nil
  go_simp
  refine (purseIs _ _ _ _ _).mono ?_; rintro e w3 ⟨rfl, hb3⟩
  go_wp2_with fail
  refine hK.out _ _ (by have hh := Below.trans hHeld.1 (Below.mono hb3 (Below.size hHeld.1)); exact ⟨hh, trivial, bkeep hh k0 (by omega), bkeep hh k1 (by omega), bkeep hh k2 (by omega), bkeep hh k3 (by omega), bkeep hh k4 (by omega), bkeep hh k5 (by omega), bkeep hh k6 (by omega), bkeep hh k7 (by omega), bkeep hh k8 (by omega), bkeep hh k9 (by omega), bkeep hh k10 (by omega), bkeep hh k11 (by omega)⟩) (fun hHeld => ?_)
  clear hK K
  (try simp only [Act.put, List.setIfInBounds_toArray, List.set_cons_zero, List.set_cons_succ])
  refine wpAnyH_ready (rs := [12]) (by kernel_rfl) (by simp) ?_
  refine AllReadyH.cons (o := ⟨some 35, _, _, _, _, _⟩) rfl (fun K hK => ?_) AllReadyH.nil
  go_simp
  refine (refPIs _ _ _ _ _).mono ?_; rintro e w3 ⟨rfl, hb3⟩
  go_wp2_with fail
  refine hK.out _ _ (by have hh := Below.trans hHeld.1 (Below.mono hb3 (Below.size hHeld.1)); exact ⟨hh, trivial, bkeep hh k0 (by omega), bkeep hh k1 (by omega), bkeep hh k2 (by omega), bkeep hh k3 (by omega), bkeep hh k4 (by omega), bkeep hh k5 (by omega), bkeep hh k6 (by omega), bkeep hh k7 (by omega), bkeep hh k8 (by omega), bkeep hh k9 (by omega), bkeep hh k10 (by omega), bkeep hh k11 (by omega)⟩) (fun hHeld => ?_)
  clear hK K
  (try simp only [Act.put, List.setIfInBounds_toArray, List.set_cons_zero, List.set_cons_succ])
  refine wpAnyH_take (i := 13) (oi := ⟨some 36, _, _, _, _, _⟩) (v := ?v13) rfl (by kernel_rfl) (by kernel_rfl) (by kernel_rfl) (fun _ _ _ h => h) (Or.inl ⟨by rfl, ?y13⟩) (by assumption) ?r13
  case y13 => (intro w hSw; (try dsimp only at hSw); (try go_split_ands); go_simp); (try with_reducible rfl)
  case r13 =>
  (try simp only [Act.put, List.setIfInBounds_toArray, List.set_cons_zero, List.set_cons_succ])
  refine wpAnyH_take (i := 14) (oi := ⟨some 37, _, _, _, _, _⟩) (v := ?v14) rfl (by kernel_rfl) (by kernel_rfl) (by kernel_rfl) (fun _ _ _ h => h) (Or.inl ⟨by rfl, ?y14⟩) (by assumption) ?r14
  case y14 => (intro w hSw; (try dsimp only at hSw); (try go_split_ands); go_simp); (try with_reducible rfl)
  case r14 =>
  (try simp only [Act.put, List.setIfInBounds_toArray, List.set_cons_zero, List.set_cons_succ])
  refine wpAnyH_take (i := 15) (oi := ⟨some 38, _, _, _, _, _⟩) (v := ?v15) rfl (by kernel_rfl) (by kernel_rfl) (by kernel_rfl) (fun _ _ _ h => h) (Or.inl ⟨by rfl, ?y15⟩) (by assumption) ?r15
  case y15 => (intro w hSw; (try dsimp only at hSw); (try go_split_ands); go_simp); (try with_reducible rfl)
  case r15 =>
  (try simp only [Act.put, List.setIfInBounds_toArray, List.set_cons_zero, List.set_cons_succ])
  refine wpAnyH_ready (rs := [16]) (by kernel_rfl) (by simp) ?_
  refine AllReadyH.cons (o := ⟨some 39, _, _, _, _, _⟩) rfl (fun K hK => ?_) AllReadyH.nil
  go_simp
  refine (purseKnown _).mono ?_; rintro e w3 ⟨rfl, hb3⟩
  go_wp2_with fail
  refine hK.out _ _ (by have hh := Below.trans hHeld.1 (Below.mono hb3 (Below.size hHeld.1)); exact ⟨hh, trivial, bkeep hh k0 (by omega), bkeep hh k1 (by omega), bkeep hh k2 (by omega), bkeep hh k3 (by omega), bkeep hh k4 (by omega), bkeep hh k5 (by omega), bkeep hh k6 (by omega), bkeep hh k7 (by omega), bkeep hh k8 (by omega), bkeep hh k9 (by omega), bkeep hh k10 (by omega), bkeep hh k11 (by omega)⟩) (fun hHeld => ?_)
  clear hK K
  (try simp only [Act.put, List.setIfInBounds_toArray, List.set_cons_zero, List.set_cons_succ])
  refine wpAnyH_take (i := 17) (oi := ⟨some 40, _, _, _, _, _⟩) (v := ?v17) rfl (by kernel_rfl) (by kernel_rfl) (by kernel_rfl) (fun _ _ _ h => h) (Or.inl ⟨by rfl, ?y17⟩) (by assumption) ?r17
  case y17 => (intro w hSw; (try dsimp only at hSw); (try go_split_ands); go_simp); (try with_reducible rfl)
  case r17 =>
  (try simp only [Act.put, List.setIfInBounds_toArray, List.set_cons_zero, List.set_cons_succ])
  refine wpAnyH_take (i := 18) (oi := ⟨some 6, _, _, _, _, _⟩) (v := ?v18) rfl (by kernel_rfl) (by kernel_rfl) (by kernel_rfl) (fun _ _ _ h => h) (Or.inl ⟨by rfl, ?y18⟩) (by assumption) ?r18
  case y18 => (intro w hSw; (try dsimp only at hSw); (try go_split_ands); go_simp); (try with_reducible rfl)
  case r18 =>
  (try simp only [Act.put, List.setIfInBounds_toArray, List.set_cons_zero, List.set_cons_succ])
  refine wpAnyH_done (by kernel_rfl) ?_ _
  go_wp2_with fail
  go_ret
  exact ⟨rfl, hB.trans (Below.mono (And.left (by assumption)) hB.size)⟩

set_option maxHeartbeats 2000000 in
theorem walkOne_2 (n a b c d : Int) (w : World) (hn : heldB n = true) :
    Calls Try.prog 3 #[.int .i64 2, .int .i64 n, .agg #[.int .i64 a, .int .i64 b, .int .i64 c, .int .i64 d]] w fun z w' => z = .returned (.bool true) ∧ Below w.heap.size w w' := by
  go_enter Try.func3, Try.ntmps3
  go_wp2_with fail
  refine (purseOne_2 _ _ hn).mono ?_
  rintro z w1 ⟨rfl, hb⟩
  have hs := hb.size; (try simp at hs)
  obtain ⟨hc, hf⟩ := bcell hb
  go_wp2_with fail
  refine (refOne_2 _ _ hn).mono ?_
  rintro z w2 ⟨rfl, hb2⟩
  have hs2 := hb2.size; (try simp at hs2)
  clear hc hf
  go_wp2_with fail
  generalize hV : (w2.alloc _ : World) = V
  have k0 : V.cell? ⟨w.heap.size, 0, none⟩ = some (.int .i64 a) := by rw [← hV]; ((repeat (first | (with_reducible assumption) | ((with_reducible refine c_set_same ?_); ((repeat (first | (with_reducible exact h_of (by assumption)) | (with_reducible assumption) | (with_reducible refine h_set ?_) | ((with_reducible refine h_alloc ?_ ?_); · (first | omega | (simp; done) | (simp; omega))) | ((with_reducible refine h_new ?_ ?_) <;> (first | omega | (simp; done) | (simp; omega))) | (with_reducible refine h_drew ?_) | (with_reducible refine h_drewN ?_) | ((with_reducible refine h_keep (by assumption) ?_ ?_); · (first | omega | (simp; done) | (simp; omega))))); done)) | ((with_reducible refine c_set_other ?_ ?_); · (first | omega | (simp; done) | (simp; omega))) | ((with_reducible refine c_alloc ?_ ?_); · (first | omega | (simp; done) | (simp; omega))) | ((with_reducible refine c_new ?_ ?_) <;> (first | omega | (simp; done) | (simp; omega))) | (with_reducible refine c_drew ?_) | (with_reducible refine c_drewN ?_) | ((with_reducible refine c_keep (by assumption) ?_ ?_); · (first | omega | (simp; done) | (simp; omega))))); done)
  have k1 : V.cell? ⟨w.heap.size, 1, none⟩ = some (.int .i64 b) := by rw [← hV]; ((repeat (first | (with_reducible assumption) | ((with_reducible refine c_set_same ?_); ((repeat (first | (with_reducible exact h_of (by assumption)) | (with_reducible assumption) | (with_reducible refine h_set ?_) | ((with_reducible refine h_alloc ?_ ?_); · (first | omega | (simp; done) | (simp; omega))) | ((with_reducible refine h_new ?_ ?_) <;> (first | omega | (simp; done) | (simp; omega))) | (with_reducible refine h_drew ?_) | (with_reducible refine h_drewN ?_) | ((with_reducible refine h_keep (by assumption) ?_ ?_); · (first | omega | (simp; done) | (simp; omega))))); done)) | ((with_reducible refine c_set_other ?_ ?_); · (first | omega | (simp; done) | (simp; omega))) | ((with_reducible refine c_alloc ?_ ?_); · (first | omega | (simp; done) | (simp; omega))) | ((with_reducible refine c_new ?_ ?_) <;> (first | omega | (simp; done) | (simp; omega))) | (with_reducible refine c_drew ?_) | (with_reducible refine c_drewN ?_) | ((with_reducible refine c_keep (by assumption) ?_ ?_); · (first | omega | (simp; done) | (simp; omega))))); done)
  have k2 : V.cell? ⟨w.heap.size, 2, none⟩ = some (.int .i64 c) := by rw [← hV]; ((repeat (first | (with_reducible assumption) | ((with_reducible refine c_set_same ?_); ((repeat (first | (with_reducible exact h_of (by assumption)) | (with_reducible assumption) | (with_reducible refine h_set ?_) | ((with_reducible refine h_alloc ?_ ?_); · (first | omega | (simp; done) | (simp; omega))) | ((with_reducible refine h_new ?_ ?_) <;> (first | omega | (simp; done) | (simp; omega))) | (with_reducible refine h_drew ?_) | (with_reducible refine h_drewN ?_) | ((with_reducible refine h_keep (by assumption) ?_ ?_); · (first | omega | (simp; done) | (simp; omega))))); done)) | ((with_reducible refine c_set_other ?_ ?_); · (first | omega | (simp; done) | (simp; omega))) | ((with_reducible refine c_alloc ?_ ?_); · (first | omega | (simp; done) | (simp; omega))) | ((with_reducible refine c_new ?_ ?_) <;> (first | omega | (simp; done) | (simp; omega))) | (with_reducible refine c_drew ?_) | (with_reducible refine c_drewN ?_) | ((with_reducible refine c_keep (by assumption) ?_ ?_); · (first | omega | (simp; done) | (simp; omega))))); done)
  have k3 : V.cell? ⟨w.heap.size, 3, none⟩ = some (.int .i64 d) := by rw [← hV]; ((repeat (first | (with_reducible assumption) | ((with_reducible refine c_set_same ?_); ((repeat (first | (with_reducible exact h_of (by assumption)) | (with_reducible assumption) | (with_reducible refine h_set ?_) | ((with_reducible refine h_alloc ?_ ?_); · (first | omega | (simp; done) | (simp; omega))) | ((with_reducible refine h_new ?_ ?_) <;> (first | omega | (simp; done) | (simp; omega))) | (with_reducible refine h_drew ?_) | (with_reducible refine h_drewN ?_) | ((with_reducible refine h_keep (by assumption) ?_ ?_); · (first | omega | (simp; done) | (simp; omega))))); done)) | ((with_reducible refine c_set_other ?_ ?_); · (first | omega | (simp; done) | (simp; omega))) | ((with_reducible refine c_alloc ?_ ?_); · (first | omega | (simp; done) | (simp; omega))) | ((with_reducible refine c_new ?_ ?_) <;> (first | omega | (simp; done) | (simp; omega))) | (with_reducible refine c_drew ?_) | (with_reducible refine c_drewN ?_) | ((with_reducible refine c_keep (by assumption) ?_ ?_); · (first | omega | (simp; done) | (simp; omega))))); done)
  have k4 : V.cell? ⟨w1.heap.size, 0, none⟩ = some (.int .i64 0) := by rw [← hV]; ((repeat (first | (with_reducible assumption) | ((with_reducible refine c_set_same ?_); ((repeat (first | (with_reducible exact h_of (by assumption)) | (with_reducible assumption) | (with_reducible refine h_set ?_) | ((with_reducible refine h_alloc ?_ ?_); · (first | omega | (simp; done) | (simp; omega))) | ((with_reducible refine h_new ?_ ?_) <;> (first | omega | (simp; done) | (simp; omega))) | (with_reducible refine h_drew ?_) | (with_reducible refine h_drewN ?_) | ((with_reducible refine h_keep (by assumption) ?_ ?_); · (first | omega | (simp; done) | (simp; omega))))); done)) | ((with_reducible refine c_set_other ?_ ?_); · (first | omega | (simp; done) | (simp; omega))) | ((with_reducible refine c_alloc ?_ ?_); · (first | omega | (simp; done) | (simp; omega))) | ((with_reducible refine c_new ?_ ?_) <;> (first | omega | (simp; done) | (simp; omega))) | (with_reducible refine c_drew ?_) | (with_reducible refine c_drewN ?_) | ((with_reducible refine c_keep (by assumption) ?_ ?_); · (first | omega | (simp; done) | (simp; omega))))); done)
  have k5 : V.cell? ⟨w1.heap.size, 1, none⟩ = some (.int .i64 0) := by rw [← hV]; ((repeat (first | (with_reducible assumption) | ((with_reducible refine c_set_same ?_); ((repeat (first | (with_reducible exact h_of (by assumption)) | (with_reducible assumption) | (with_reducible refine h_set ?_) | ((with_reducible refine h_alloc ?_ ?_); · (first | omega | (simp; done) | (simp; omega))) | ((with_reducible refine h_new ?_ ?_) <;> (first | omega | (simp; done) | (simp; omega))) | (with_reducible refine h_drew ?_) | (with_reducible refine h_drewN ?_) | ((with_reducible refine h_keep (by assumption) ?_ ?_); · (first | omega | (simp; done) | (simp; omega))))); done)) | ((with_reducible refine c_set_other ?_ ?_); · (first | omega | (simp; done) | (simp; omega))) | ((with_reducible refine c_alloc ?_ ?_); · (first | omega | (simp; done) | (simp; omega))) | ((with_reducible refine c_new ?_ ?_) <;> (first | omega | (simp; done) | (simp; omega))) | (with_reducible refine c_drew ?_) | (with_reducible refine c_drewN ?_) | ((with_reducible refine c_keep (by assumption) ?_ ?_); · (first | omega | (simp; done) | (simp; omega))))); done)
  have k6 : V.cell? ⟨w1.heap.size, 2, none⟩ = some (.int .i64 n) := by rw [← hV]; ((repeat (first | (with_reducible assumption) | ((with_reducible refine c_set_same ?_); ((repeat (first | (with_reducible exact h_of (by assumption)) | (with_reducible assumption) | (with_reducible refine h_set ?_) | ((with_reducible refine h_alloc ?_ ?_); · (first | omega | (simp; done) | (simp; omega))) | ((with_reducible refine h_new ?_ ?_) <;> (first | omega | (simp; done) | (simp; omega))) | (with_reducible refine h_drew ?_) | (with_reducible refine h_drewN ?_) | ((with_reducible refine h_keep (by assumption) ?_ ?_); · (first | omega | (simp; done) | (simp; omega))))); done)) | ((with_reducible refine c_set_other ?_ ?_); · (first | omega | (simp; done) | (simp; omega))) | ((with_reducible refine c_alloc ?_ ?_); · (first | omega | (simp; done) | (simp; omega))) | ((with_reducible refine c_new ?_ ?_) <;> (first | omega | (simp; done) | (simp; omega))) | (with_reducible refine c_drew ?_) | (with_reducible refine c_drewN ?_) | ((with_reducible refine c_keep (by assumption) ?_ ?_); · (first | omega | (simp; done) | (simp; omega))))); done)
  have k7 : V.cell? ⟨w1.heap.size, 3, none⟩ = some (.int .i64 0) := by rw [← hV]; ((repeat (first | (with_reducible assumption) | ((with_reducible refine c_set_same ?_); ((repeat (first | (with_reducible exact h_of (by assumption)) | (with_reducible assumption) | (with_reducible refine h_set ?_) | ((with_reducible refine h_alloc ?_ ?_); · (first | omega | (simp; done) | (simp; omega))) | ((with_reducible refine h_new ?_ ?_) <;> (first | omega | (simp; done) | (simp; omega))) | (with_reducible refine h_drew ?_) | (with_reducible refine h_drewN ?_) | ((with_reducible refine h_keep (by assumption) ?_ ?_); · (first | omega | (simp; done) | (simp; omega))))); done)) | ((with_reducible refine c_set_other ?_ ?_); · (first | omega | (simp; done) | (simp; omega))) | ((with_reducible refine c_alloc ?_ ?_); · (first | omega | (simp; done) | (simp; omega))) | ((with_reducible refine c_new ?_ ?_) <;> (first | omega | (simp; done) | (simp; omega))) | (with_reducible refine c_drew ?_) | (with_reducible refine c_drewN ?_) | ((with_reducible refine c_keep (by assumption) ?_ ?_); · (first | omega | (simp; done) | (simp; omega))))); done)
  have k8 : V.cell? ⟨w2.heap.size, 0, none⟩ = some (.int .i64 0) := by rw [← hV]; ((repeat (first | (with_reducible assumption) | ((with_reducible refine c_set_same ?_); ((repeat (first | (with_reducible exact h_of (by assumption)) | (with_reducible assumption) | (with_reducible refine h_set ?_) | ((with_reducible refine h_alloc ?_ ?_); · (first | omega | (simp; done) | (simp; omega))) | ((with_reducible refine h_new ?_ ?_) <;> (first | omega | (simp; done) | (simp; omega))) | (with_reducible refine h_drew ?_) | (with_reducible refine h_drewN ?_) | ((with_reducible refine h_keep (by assumption) ?_ ?_); · (first | omega | (simp; done) | (simp; omega))))); done)) | ((with_reducible refine c_set_other ?_ ?_); · (first | omega | (simp; done) | (simp; omega))) | ((with_reducible refine c_alloc ?_ ?_); · (first | omega | (simp; done) | (simp; omega))) | ((with_reducible refine c_new ?_ ?_) <;> (first | omega | (simp; done) | (simp; omega))) | (with_reducible refine c_drew ?_) | (with_reducible refine c_drewN ?_) | ((with_reducible refine c_keep (by assumption) ?_ ?_); · (first | omega | (simp; done) | (simp; omega))))); done)
  have k9 : V.cell? ⟨w2.heap.size, 1, none⟩ = some (.int .i64 0) := by rw [← hV]; ((repeat (first | (with_reducible assumption) | ((with_reducible refine c_set_same ?_); ((repeat (first | (with_reducible exact h_of (by assumption)) | (with_reducible assumption) | (with_reducible refine h_set ?_) | ((with_reducible refine h_alloc ?_ ?_); · (first | omega | (simp; done) | (simp; omega))) | ((with_reducible refine h_new ?_ ?_) <;> (first | omega | (simp; done) | (simp; omega))) | (with_reducible refine h_drew ?_) | (with_reducible refine h_drewN ?_) | ((with_reducible refine h_keep (by assumption) ?_ ?_); · (first | omega | (simp; done) | (simp; omega))))); done)) | ((with_reducible refine c_set_other ?_ ?_); · (first | omega | (simp; done) | (simp; omega))) | ((with_reducible refine c_alloc ?_ ?_); · (first | omega | (simp; done) | (simp; omega))) | ((with_reducible refine c_new ?_ ?_) <;> (first | omega | (simp; done) | (simp; omega))) | (with_reducible refine c_drew ?_) | (with_reducible refine c_drewN ?_) | ((with_reducible refine c_keep (by assumption) ?_ ?_); · (first | omega | (simp; done) | (simp; omega))))); done)
  have k10 : V.cell? ⟨w2.heap.size, 2, none⟩ = some (.int .i64 n) := by rw [← hV]; ((repeat (first | (with_reducible assumption) | ((with_reducible refine c_set_same ?_); ((repeat (first | (with_reducible exact h_of (by assumption)) | (with_reducible assumption) | (with_reducible refine h_set ?_) | ((with_reducible refine h_alloc ?_ ?_); · (first | omega | (simp; done) | (simp; omega))) | ((with_reducible refine h_new ?_ ?_) <;> (first | omega | (simp; done) | (simp; omega))) | (with_reducible refine h_drew ?_) | (with_reducible refine h_drewN ?_) | ((with_reducible refine h_keep (by assumption) ?_ ?_); · (first | omega | (simp; done) | (simp; omega))))); done)) | ((with_reducible refine c_set_other ?_ ?_); · (first | omega | (simp; done) | (simp; omega))) | ((with_reducible refine c_alloc ?_ ?_); · (first | omega | (simp; done) | (simp; omega))) | ((with_reducible refine c_new ?_ ?_) <;> (first | omega | (simp; done) | (simp; omega))) | (with_reducible refine c_drew ?_) | (with_reducible refine c_drewN ?_) | ((with_reducible refine c_keep (by assumption) ?_ ?_); · (first | omega | (simp; done) | (simp; omega))))); done)
  have k11 : V.cell? ⟨w2.heap.size, 3, none⟩ = some (.int .i64 0) := by rw [← hV]; ((repeat (first | (with_reducible assumption) | ((with_reducible refine c_set_same ?_); ((repeat (first | (with_reducible exact h_of (by assumption)) | (with_reducible assumption) | (with_reducible refine h_set ?_) | ((with_reducible refine h_alloc ?_ ?_); · (first | omega | (simp; done) | (simp; omega))) | ((with_reducible refine h_new ?_ ?_) <;> (first | omega | (simp; done) | (simp; omega))) | (with_reducible refine h_drew ?_) | (with_reducible refine h_drewN ?_) | ((with_reducible refine h_keep (by assumption) ?_ ?_); · (first | omega | (simp; done) | (simp; omega))))); done)) | ((with_reducible refine c_set_other ?_ ?_); · (first | omega | (simp; done) | (simp; omega))) | ((with_reducible refine c_alloc ?_ ?_); · (first | omega | (simp; done) | (simp; omega))) | ((with_reducible refine c_new ?_ ?_) <;> (first | omega | (simp; done) | (simp; omega))) | (with_reducible refine c_drew ?_) | (with_reducible refine c_drewN ?_) | ((with_reducible refine c_keep (by assumption) ?_ ?_); · (first | omega | (simp; done) | (simp; omega))))); done)
  have hsV : w2.heap.size < V.heap.size := by rw [← hV]; simp
  have hB : Below w.heap.size w V := by rw [← hV]; ((repeat (first | (with_reducible exact Below.refl _ _) | (with_reducible assumption) | ((with_reducible refine b_set ?_ ?_); · (first | omega | (simp; done) | (simp; omega))) | ((with_reducible refine b_alloc ?_ ?_); · (first | omega | (simp; done) | (simp; omega))) | (with_reducible refine Below.drew ?_) | (with_reducible refine b_drewN ?_) | ((with_reducible refine b_call (by assumption) ?_ ?_); · (first | omega | (simp; done) | (simp; omega))))); done)
  clear hV hb hb2
  refine wp_region_held_drew (S := (fun W => Below V.heap.size V W ∧ True ∧ W.cell? ⟨w.heap.size, 0, none⟩ = some (.int .i64 a) ∧ W.cell? ⟨w.heap.size, 1, none⟩ = some (.int .i64 b) ∧ W.cell? ⟨w.heap.size, 2, none⟩ = some (.int .i64 c) ∧ W.cell? ⟨w.heap.size, 3, none⟩ = some (.int .i64 d) ∧ W.cell? ⟨w1.heap.size, 0, none⟩ = some (.int .i64 0) ∧ W.cell? ⟨w1.heap.size, 1, none⟩ = some (.int .i64 0) ∧ W.cell? ⟨w1.heap.size, 2, none⟩ = some (.int .i64 n) ∧ W.cell? ⟨w1.heap.size, 3, none⟩ = some (.int .i64 0) ∧ W.cell? ⟨w2.heap.size, 0, none⟩ = some (.int .i64 0) ∧ W.cell? ⟨w2.heap.size, 1, none⟩ = some (.int .i64 0) ∧ W.cell? ⟨w2.heap.size, 2, none⟩ = some (.int .i64 n) ∧ W.cell? ⟨w2.heap.size, 3, none⟩ = some (.int .i64 0))) (by kernel_rfl) ⟨(Below.refl _ _).drew, trivial, k0, k1, k2, k3, k4, k5, k6, k7, k8, k9, k10, k11⟩ (fun hHeld => ?_)
  refine wpAnyH_take (i := 0) (oi := ⟨some 23, _, _, _, _, _⟩) (v := ?v0) rfl (by kernel_rfl) (by kernel_rfl) (by kernel_rfl) (fun _ _ _ h => h) (Or.inl ⟨by rfl, ?y0⟩) (by assumption) ?r0
  case y0 => (intro w hSw; (try dsimp only at hSw); (try go_split_ands); go_simp); (try with_reducible rfl)
  case r0 =>
  (try simp only [Act.put, List.setIfInBounds_toArray, List.set_cons_zero, List.set_cons_succ])
  refine wpAnyH_take (i := 1) (oi := ⟨some 24, _, _, _, _, _⟩) (v := ?v1) rfl (by kernel_rfl) (by kernel_rfl) (by kernel_rfl) (fun _ _ _ h => h) (Or.inl ⟨by rfl, ?y1⟩) (by assumption) ?r1
  case y1 => (intro w hSw; (try dsimp only at hSw); (try go_split_ands); go_simp); (try with_reducible rfl)
  case r1 =>
  (try simp only [Act.put, List.setIfInBounds_toArray, List.set_cons_zero, List.set_cons_succ])
  refine wpAnyH_take (i := 2) (oi := ⟨some 25, _, _, _, _, _⟩) (v := ?v2) rfl (by kernel_rfl) (by kernel_rfl) (by kernel_rfl) (fun _ _ _ h => h) (Or.inl ⟨by rfl, ?y2⟩) (by assumption) ?r2
  case y2 => (intro w hSw; (try dsimp only at hSw); (try go_split_ands); go_simp); (try with_reducible rfl)
  case r2 =>
  (try simp only [Act.put, List.setIfInBounds_toArray, List.set_cons_zero, List.set_cons_succ])
  refine wpAnyH_take (i := 3) (oi := ⟨some 26, _, _, _, _, _⟩) (v := ?v3) rfl (by kernel_rfl) (by kernel_rfl) (by kernel_rfl) (fun _ _ _ h => h) (Or.inl ⟨by rfl, ?y3⟩) (by assumption) ?r3
  case y3 => (intro w hSw; (try dsimp only at hSw); (try go_split_ands); go_simp); (try with_reducible rfl)
  case r3 =>
  (try simp only [Act.put, List.setIfInBounds_toArray, List.set_cons_zero, List.set_cons_succ])
  refine wpAnyH_take (i := 4) (oi := ⟨some 27, _, _, _, _, _⟩) (v := ?v4) rfl (by kernel_rfl) (by kernel_rfl) (by kernel_rfl) (fun _ _ _ h => h) (Or.inl ⟨by rfl, ?y4⟩) (by assumption) ?r4
  case y4 => (intro w hSw; (try dsimp only at hSw); (try go_split_ands); go_simp); (try with_reducible rfl)
  case r4 =>
  (try simp only [Act.put, List.setIfInBounds_toArray, List.set_cons_zero, List.set_cons_succ])
  refine wpAnyH_take (i := 5) (oi := ⟨some 28, _, _, _, _, _⟩) (v := ?v5) rfl (by kernel_rfl) (by kernel_rfl) (by kernel_rfl) (fun _ _ _ h => h) (Or.inl ⟨by rfl, ?y5⟩) (by assumption) ?r5
  case y5 => (intro w hSw; (try dsimp only at hSw); (try go_split_ands); go_simp); (try with_reducible rfl)
  case r5 =>
  (try simp only [Act.put, List.setIfInBounds_toArray, List.set_cons_zero, List.set_cons_succ])
  refine wpAnyH_take (i := 6) (oi := ⟨some 29, _, _, _, _, _⟩) (v := ?v6) rfl (by kernel_rfl) (by kernel_rfl) (by kernel_rfl) (fun _ _ _ h => h) (Or.inl ⟨by rfl, ?y6⟩) (by assumption) ?r6
  case y6 => (intro w hSw; (try dsimp only at hSw); (try go_split_ands); go_simp); (try with_reducible rfl)
  case r6 =>
  (try simp only [Act.put, List.setIfInBounds_toArray, List.set_cons_zero, List.set_cons_succ])
  refine wpAnyH_take (i := 7) (oi := ⟨some 30, _, _, _, _, _⟩) (v := ?v7) rfl (by kernel_rfl) (by kernel_rfl) (by kernel_rfl) (fun _ _ _ h => h) (Or.inl ⟨by rfl, ?y7⟩) (by assumption) ?r7
  case y7 => (intro w hSw; (try dsimp only at hSw); (try go_split_ands); go_simp); (try with_reducible rfl)
  case r7 =>
  (try simp only [Act.put, List.setIfInBounds_toArray, List.set_cons_zero, List.set_cons_succ])
  refine wpAnyH_take (i := 8) (oi := ⟨some 31, _, _, _, _, _⟩) (v := ?v8) rfl (by kernel_rfl) (by kernel_rfl) (by kernel_rfl) (fun _ _ _ h => h) (Or.inl ⟨by rfl, ?y8⟩) (by assumption) ?r8
  case y8 => (intro w hSw; (try dsimp only at hSw); (try go_split_ands); go_simp); (try with_reducible rfl)
  case r8 =>
  (try simp only [Act.put, List.setIfInBounds_toArray, List.set_cons_zero, List.set_cons_succ])
  refine wpAnyH_take (i := 9) (oi := ⟨some 32, _, _, _, _, _⟩) (v := ?v9) rfl (by kernel_rfl) (by kernel_rfl) (by kernel_rfl) (fun _ _ _ h => h) (Or.inl ⟨by rfl, ?y9⟩) (by assumption) ?r9
  case y9 => (intro w hSw; (try dsimp only at hSw); (try go_split_ands); go_simp); (try with_reducible rfl)
  case r9 =>
  (try simp only [Act.put, List.setIfInBounds_toArray, List.set_cons_zero, List.set_cons_succ])
  refine wpAnyH_take (i := 11) (oi := ⟨some 34, _, _, _, _, _⟩) (v := ?v11) rfl (by kernel_rfl) (by kernel_rfl) (by kernel_rfl) (fun _ _ _ h => h) (Or.inl ⟨by rfl, ?y11⟩) (by assumption) ?r11
  case y11 => (intro w hSw; (try dsimp only at hSw); (try go_split_ands); go_simp); (try with_reducible rfl)
  case r11 =>
  (try simp only [Act.put, List.setIfInBounds_toArray, List.set_cons_zero, List.set_cons_succ])
  refine wpAnyH_ready (rs := [10]) (by kernel_rfl) (by simp) ?_
  refine AllReadyH.cons (o := ⟨some 33, _, _, _, _, _⟩) rfl (fun K hK => ?_) AllReadyH.nil
  go_simp
  refine (purseIs _ _ _ _ _).mono ?_; rintro e w3 ⟨rfl, hb3⟩
  go_wp2_with fail
  refine hK.out _ _ (by have hh := Below.trans hHeld.1 (Below.mono hb3 (Below.size hHeld.1)); exact ⟨hh, trivial, bkeep hh k0 (by omega), bkeep hh k1 (by omega), bkeep hh k2 (by omega), bkeep hh k3 (by omega), bkeep hh k4 (by omega), bkeep hh k5 (by omega), bkeep hh k6 (by omega), bkeep hh k7 (by omega), bkeep hh k8 (by omega), bkeep hh k9 (by omega), bkeep hh k10 (by omega), bkeep hh k11 (by omega)⟩) (fun hHeld => ?_)
  clear hK K
  (try simp only [Act.put, List.setIfInBounds_toArray, List.set_cons_zero, List.set_cons_succ])
  refine wpAnyH_ready (rs := [12]) (by kernel_rfl) (by simp) ?_
  refine AllReadyH.cons (o := ⟨some 35, _, _, _, _, _⟩) rfl (fun K hK => ?_) AllReadyH.nil
  go_simp
  refine (refPIs _ _ _ _ _).mono ?_; rintro e w3 ⟨rfl, hb3⟩
  go_wp2_with fail
  refine hK.out _ _ (by have hh := Below.trans hHeld.1 (Below.mono hb3 (Below.size hHeld.1)); exact ⟨hh, trivial, bkeep hh k0 (by omega), bkeep hh k1 (by omega), bkeep hh k2 (by omega), bkeep hh k3 (by omega), bkeep hh k4 (by omega), bkeep hh k5 (by omega), bkeep hh k6 (by omega), bkeep hh k7 (by omega), bkeep hh k8 (by omega), bkeep hh k9 (by omega), bkeep hh k10 (by omega), bkeep hh k11 (by omega)⟩) (fun hHeld => ?_)
  clear hK K
  (try simp only [Act.put, List.setIfInBounds_toArray, List.set_cons_zero, List.set_cons_succ])
  refine wpAnyH_take (i := 13) (oi := ⟨some 36, _, _, _, _, _⟩) (v := ?v13) rfl (by kernel_rfl) (by kernel_rfl) (by kernel_rfl) (fun _ _ _ h => h) (Or.inl ⟨by rfl, ?y13⟩) (by assumption) ?r13
  case y13 => (intro w hSw; (try dsimp only at hSw); (try go_split_ands); go_simp); (try with_reducible rfl)
  case r13 =>
  (try simp only [Act.put, List.setIfInBounds_toArray, List.set_cons_zero, List.set_cons_succ])
  refine wpAnyH_take (i := 14) (oi := ⟨some 37, _, _, _, _, _⟩) (v := ?v14) rfl (by kernel_rfl) (by kernel_rfl) (by kernel_rfl) (fun _ _ _ h => h) (Or.inl ⟨by rfl, ?y14⟩) (by assumption) ?r14
  case y14 => (intro w hSw; (try dsimp only at hSw); (try go_split_ands); go_simp); (try with_reducible rfl)
  case r14 =>
  (try simp only [Act.put, List.setIfInBounds_toArray, List.set_cons_zero, List.set_cons_succ])
  refine wpAnyH_take (i := 15) (oi := ⟨some 38, _, _, _, _, _⟩) (v := ?v15) rfl (by kernel_rfl) (by kernel_rfl) (by kernel_rfl) (fun _ _ _ h => h) (Or.inl ⟨by rfl, ?y15⟩) (by assumption) ?r15
  case y15 => (intro w hSw; (try dsimp only at hSw); (try go_split_ands); go_simp); (try with_reducible rfl)
  case r15 =>
  (try simp only [Act.put, List.setIfInBounds_toArray, List.set_cons_zero, List.set_cons_succ])
  refine wpAnyH_ready (rs := [16]) (by kernel_rfl) (by simp) ?_
  refine AllReadyH.cons (o := ⟨some 39, _, _, _, _, _⟩) rfl (fun K hK => ?_) AllReadyH.nil
  go_simp
  refine (purseKnown _).mono ?_; rintro e w3 ⟨rfl, hb3⟩
  go_wp2_with fail
  refine hK.out _ _ (by have hh := Below.trans hHeld.1 (Below.mono hb3 (Below.size hHeld.1)); exact ⟨hh, trivial, bkeep hh k0 (by omega), bkeep hh k1 (by omega), bkeep hh k2 (by omega), bkeep hh k3 (by omega), bkeep hh k4 (by omega), bkeep hh k5 (by omega), bkeep hh k6 (by omega), bkeep hh k7 (by omega), bkeep hh k8 (by omega), bkeep hh k9 (by omega), bkeep hh k10 (by omega), bkeep hh k11 (by omega)⟩) (fun hHeld => ?_)
  clear hK K
  (try simp only [Act.put, List.setIfInBounds_toArray, List.set_cons_zero, List.set_cons_succ])
  refine wpAnyH_take (i := 17) (oi := ⟨some 40, _, _, _, _, _⟩) (v := ?v17) rfl (by kernel_rfl) (by kernel_rfl) (by kernel_rfl) (fun _ _ _ h => h) (Or.inl ⟨by rfl, ?y17⟩) (by assumption) ?r17
  case y17 => (intro w hSw; (try dsimp only at hSw); (try go_split_ands); go_simp); (try with_reducible rfl)
  case r17 =>
  (try simp only [Act.put, List.setIfInBounds_toArray, List.set_cons_zero, List.set_cons_succ])
  refine wpAnyH_take (i := 18) (oi := ⟨some 6, _, _, _, _, _⟩) (v := ?v18) rfl (by kernel_rfl) (by kernel_rfl) (by kernel_rfl) (fun _ _ _ h => h) (Or.inl ⟨by rfl, ?y18⟩) (by assumption) ?r18
  case y18 => (intro w hSw; (try dsimp only at hSw); (try go_split_ands); go_simp); (try with_reducible rfl)
  case r18 =>
  (try simp only [Act.put, List.setIfInBounds_toArray, List.set_cons_zero, List.set_cons_succ])
  refine wpAnyH_done (by kernel_rfl) ?_ _
  go_wp2_with fail
  go_ret
  exact ⟨rfl, hB.trans (Below.mono (And.left (by assumption)) hB.size)⟩

set_option maxHeartbeats 2000000 in
theorem walkOne_3 (n a b c d : Int) (w : World) (hn : heldB n = true) :
    Calls Try.prog 3 #[.int .i64 3, .int .i64 n, .agg #[.int .i64 a, .int .i64 b, .int .i64 c, .int .i64 d]] w fun z w' => z = .returned (.bool true) ∧ Below w.heap.size w w' := by
  go_enter Try.func3, Try.ntmps3
  go_wp2_with fail
  refine (purseOne_3 _ _ hn).mono ?_
  rintro z w1 ⟨rfl, hb⟩
  have hs := hb.size; (try simp at hs)
  obtain ⟨hc, hf⟩ := bcell hb
  go_wp2_with fail
  refine (refOne_3 _ _ hn).mono ?_
  rintro z w2 ⟨rfl, hb2⟩
  have hs2 := hb2.size; (try simp at hs2)
  clear hc hf
  go_wp2_with fail
  generalize hV : (w2.alloc _ : World) = V
  have k0 : V.cell? ⟨w.heap.size, 0, none⟩ = some (.int .i64 a) := by rw [← hV]; ((repeat (first | (with_reducible assumption) | ((with_reducible refine c_set_same ?_); ((repeat (first | (with_reducible exact h_of (by assumption)) | (with_reducible assumption) | (with_reducible refine h_set ?_) | ((with_reducible refine h_alloc ?_ ?_); · (first | omega | (simp; done) | (simp; omega))) | ((with_reducible refine h_new ?_ ?_) <;> (first | omega | (simp; done) | (simp; omega))) | (with_reducible refine h_drew ?_) | (with_reducible refine h_drewN ?_) | ((with_reducible refine h_keep (by assumption) ?_ ?_); · (first | omega | (simp; done) | (simp; omega))))); done)) | ((with_reducible refine c_set_other ?_ ?_); · (first | omega | (simp; done) | (simp; omega))) | ((with_reducible refine c_alloc ?_ ?_); · (first | omega | (simp; done) | (simp; omega))) | ((with_reducible refine c_new ?_ ?_) <;> (first | omega | (simp; done) | (simp; omega))) | (with_reducible refine c_drew ?_) | (with_reducible refine c_drewN ?_) | ((with_reducible refine c_keep (by assumption) ?_ ?_); · (first | omega | (simp; done) | (simp; omega))))); done)
  have k1 : V.cell? ⟨w.heap.size, 1, none⟩ = some (.int .i64 b) := by rw [← hV]; ((repeat (first | (with_reducible assumption) | ((with_reducible refine c_set_same ?_); ((repeat (first | (with_reducible exact h_of (by assumption)) | (with_reducible assumption) | (with_reducible refine h_set ?_) | ((with_reducible refine h_alloc ?_ ?_); · (first | omega | (simp; done) | (simp; omega))) | ((with_reducible refine h_new ?_ ?_) <;> (first | omega | (simp; done) | (simp; omega))) | (with_reducible refine h_drew ?_) | (with_reducible refine h_drewN ?_) | ((with_reducible refine h_keep (by assumption) ?_ ?_); · (first | omega | (simp; done) | (simp; omega))))); done)) | ((with_reducible refine c_set_other ?_ ?_); · (first | omega | (simp; done) | (simp; omega))) | ((with_reducible refine c_alloc ?_ ?_); · (first | omega | (simp; done) | (simp; omega))) | ((with_reducible refine c_new ?_ ?_) <;> (first | omega | (simp; done) | (simp; omega))) | (with_reducible refine c_drew ?_) | (with_reducible refine c_drewN ?_) | ((with_reducible refine c_keep (by assumption) ?_ ?_); · (first | omega | (simp; done) | (simp; omega))))); done)
  have k2 : V.cell? ⟨w.heap.size, 2, none⟩ = some (.int .i64 c) := by rw [← hV]; ((repeat (first | (with_reducible assumption) | ((with_reducible refine c_set_same ?_); ((repeat (first | (with_reducible exact h_of (by assumption)) | (with_reducible assumption) | (with_reducible refine h_set ?_) | ((with_reducible refine h_alloc ?_ ?_); · (first | omega | (simp; done) | (simp; omega))) | ((with_reducible refine h_new ?_ ?_) <;> (first | omega | (simp; done) | (simp; omega))) | (with_reducible refine h_drew ?_) | (with_reducible refine h_drewN ?_) | ((with_reducible refine h_keep (by assumption) ?_ ?_); · (first | omega | (simp; done) | (simp; omega))))); done)) | ((with_reducible refine c_set_other ?_ ?_); · (first | omega | (simp; done) | (simp; omega))) | ((with_reducible refine c_alloc ?_ ?_); · (first | omega | (simp; done) | (simp; omega))) | ((with_reducible refine c_new ?_ ?_) <;> (first | omega | (simp; done) | (simp; omega))) | (with_reducible refine c_drew ?_) | (with_reducible refine c_drewN ?_) | ((with_reducible refine c_keep (by assumption) ?_ ?_); · (first | omega | (simp; done) | (simp; omega))))); done)
  have k3 : V.cell? ⟨w.heap.size, 3, none⟩ = some (.int .i64 d) := by rw [← hV]; ((repeat (first | (with_reducible assumption) | ((with_reducible refine c_set_same ?_); ((repeat (first | (with_reducible exact h_of (by assumption)) | (with_reducible assumption) | (with_reducible refine h_set ?_) | ((with_reducible refine h_alloc ?_ ?_); · (first | omega | (simp; done) | (simp; omega))) | ((with_reducible refine h_new ?_ ?_) <;> (first | omega | (simp; done) | (simp; omega))) | (with_reducible refine h_drew ?_) | (with_reducible refine h_drewN ?_) | ((with_reducible refine h_keep (by assumption) ?_ ?_); · (first | omega | (simp; done) | (simp; omega))))); done)) | ((with_reducible refine c_set_other ?_ ?_); · (first | omega | (simp; done) | (simp; omega))) | ((with_reducible refine c_alloc ?_ ?_); · (first | omega | (simp; done) | (simp; omega))) | ((with_reducible refine c_new ?_ ?_) <;> (first | omega | (simp; done) | (simp; omega))) | (with_reducible refine c_drew ?_) | (with_reducible refine c_drewN ?_) | ((with_reducible refine c_keep (by assumption) ?_ ?_); · (first | omega | (simp; done) | (simp; omega))))); done)
  have k4 : V.cell? ⟨w1.heap.size, 0, none⟩ = some (.int .i64 0) := by rw [← hV]; ((repeat (first | (with_reducible assumption) | ((with_reducible refine c_set_same ?_); ((repeat (first | (with_reducible exact h_of (by assumption)) | (with_reducible assumption) | (with_reducible refine h_set ?_) | ((with_reducible refine h_alloc ?_ ?_); · (first | omega | (simp; done) | (simp; omega))) | ((with_reducible refine h_new ?_ ?_) <;> (first | omega | (simp; done) | (simp; omega))) | (with_reducible refine h_drew ?_) | (with_reducible refine h_drewN ?_) | ((with_reducible refine h_keep (by assumption) ?_ ?_); · (first | omega | (simp; done) | (simp; omega))))); done)) | ((with_reducible refine c_set_other ?_ ?_); · (first | omega | (simp; done) | (simp; omega))) | ((with_reducible refine c_alloc ?_ ?_); · (first | omega | (simp; done) | (simp; omega))) | ((with_reducible refine c_new ?_ ?_) <;> (first | omega | (simp; done) | (simp; omega))) | (with_reducible refine c_drew ?_) | (with_reducible refine c_drewN ?_) | ((with_reducible refine c_keep (by assumption) ?_ ?_); · (first | omega | (simp; done) | (simp; omega))))); done)
  have k5 : V.cell? ⟨w1.heap.size, 1, none⟩ = some (.int .i64 0) := by rw [← hV]; ((repeat (first | (with_reducible assumption) | ((with_reducible refine c_set_same ?_); ((repeat (first | (with_reducible exact h_of (by assumption)) | (with_reducible assumption) | (with_reducible refine h_set ?_) | ((with_reducible refine h_alloc ?_ ?_); · (first | omega | (simp; done) | (simp; omega))) | ((with_reducible refine h_new ?_ ?_) <;> (first | omega | (simp; done) | (simp; omega))) | (with_reducible refine h_drew ?_) | (with_reducible refine h_drewN ?_) | ((with_reducible refine h_keep (by assumption) ?_ ?_); · (first | omega | (simp; done) | (simp; omega))))); done)) | ((with_reducible refine c_set_other ?_ ?_); · (first | omega | (simp; done) | (simp; omega))) | ((with_reducible refine c_alloc ?_ ?_); · (first | omega | (simp; done) | (simp; omega))) | ((with_reducible refine c_new ?_ ?_) <;> (first | omega | (simp; done) | (simp; omega))) | (with_reducible refine c_drew ?_) | (with_reducible refine c_drewN ?_) | ((with_reducible refine c_keep (by assumption) ?_ ?_); · (first | omega | (simp; done) | (simp; omega))))); done)
  have k6 : V.cell? ⟨w1.heap.size, 2, none⟩ = some (.int .i64 0) := by rw [← hV]; ((repeat (first | (with_reducible assumption) | ((with_reducible refine c_set_same ?_); ((repeat (first | (with_reducible exact h_of (by assumption)) | (with_reducible assumption) | (with_reducible refine h_set ?_) | ((with_reducible refine h_alloc ?_ ?_); · (first | omega | (simp; done) | (simp; omega))) | ((with_reducible refine h_new ?_ ?_) <;> (first | omega | (simp; done) | (simp; omega))) | (with_reducible refine h_drew ?_) | (with_reducible refine h_drewN ?_) | ((with_reducible refine h_keep (by assumption) ?_ ?_); · (first | omega | (simp; done) | (simp; omega))))); done)) | ((with_reducible refine c_set_other ?_ ?_); · (first | omega | (simp; done) | (simp; omega))) | ((with_reducible refine c_alloc ?_ ?_); · (first | omega | (simp; done) | (simp; omega))) | ((with_reducible refine c_new ?_ ?_) <;> (first | omega | (simp; done) | (simp; omega))) | (with_reducible refine c_drew ?_) | (with_reducible refine c_drewN ?_) | ((with_reducible refine c_keep (by assumption) ?_ ?_); · (first | omega | (simp; done) | (simp; omega))))); done)
  have k7 : V.cell? ⟨w1.heap.size, 3, none⟩ = some (.int .i64 n) := by rw [← hV]; ((repeat (first | (with_reducible assumption) | ((with_reducible refine c_set_same ?_); ((repeat (first | (with_reducible exact h_of (by assumption)) | (with_reducible assumption) | (with_reducible refine h_set ?_) | ((with_reducible refine h_alloc ?_ ?_); · (first | omega | (simp; done) | (simp; omega))) | ((with_reducible refine h_new ?_ ?_) <;> (first | omega | (simp; done) | (simp; omega))) | (with_reducible refine h_drew ?_) | (with_reducible refine h_drewN ?_) | ((with_reducible refine h_keep (by assumption) ?_ ?_); · (first | omega | (simp; done) | (simp; omega))))); done)) | ((with_reducible refine c_set_other ?_ ?_); · (first | omega | (simp; done) | (simp; omega))) | ((with_reducible refine c_alloc ?_ ?_); · (first | omega | (simp; done) | (simp; omega))) | ((with_reducible refine c_new ?_ ?_) <;> (first | omega | (simp; done) | (simp; omega))) | (with_reducible refine c_drew ?_) | (with_reducible refine c_drewN ?_) | ((with_reducible refine c_keep (by assumption) ?_ ?_); · (first | omega | (simp; done) | (simp; omega))))); done)
  have k8 : V.cell? ⟨w2.heap.size, 0, none⟩ = some (.int .i64 0) := by rw [← hV]; ((repeat (first | (with_reducible assumption) | ((with_reducible refine c_set_same ?_); ((repeat (first | (with_reducible exact h_of (by assumption)) | (with_reducible assumption) | (with_reducible refine h_set ?_) | ((with_reducible refine h_alloc ?_ ?_); · (first | omega | (simp; done) | (simp; omega))) | ((with_reducible refine h_new ?_ ?_) <;> (first | omega | (simp; done) | (simp; omega))) | (with_reducible refine h_drew ?_) | (with_reducible refine h_drewN ?_) | ((with_reducible refine h_keep (by assumption) ?_ ?_); · (first | omega | (simp; done) | (simp; omega))))); done)) | ((with_reducible refine c_set_other ?_ ?_); · (first | omega | (simp; done) | (simp; omega))) | ((with_reducible refine c_alloc ?_ ?_); · (first | omega | (simp; done) | (simp; omega))) | ((with_reducible refine c_new ?_ ?_) <;> (first | omega | (simp; done) | (simp; omega))) | (with_reducible refine c_drew ?_) | (with_reducible refine c_drewN ?_) | ((with_reducible refine c_keep (by assumption) ?_ ?_); · (first | omega | (simp; done) | (simp; omega))))); done)
  have k9 : V.cell? ⟨w2.heap.size, 1, none⟩ = some (.int .i64 0) := by rw [← hV]; ((repeat (first | (with_reducible assumption) | ((with_reducible refine c_set_same ?_); ((repeat (first | (with_reducible exact h_of (by assumption)) | (with_reducible assumption) | (with_reducible refine h_set ?_) | ((with_reducible refine h_alloc ?_ ?_); · (first | omega | (simp; done) | (simp; omega))) | ((with_reducible refine h_new ?_ ?_) <;> (first | omega | (simp; done) | (simp; omega))) | (with_reducible refine h_drew ?_) | (with_reducible refine h_drewN ?_) | ((with_reducible refine h_keep (by assumption) ?_ ?_); · (first | omega | (simp; done) | (simp; omega))))); done)) | ((with_reducible refine c_set_other ?_ ?_); · (first | omega | (simp; done) | (simp; omega))) | ((with_reducible refine c_alloc ?_ ?_); · (first | omega | (simp; done) | (simp; omega))) | ((with_reducible refine c_new ?_ ?_) <;> (first | omega | (simp; done) | (simp; omega))) | (with_reducible refine c_drew ?_) | (with_reducible refine c_drewN ?_) | ((with_reducible refine c_keep (by assumption) ?_ ?_); · (first | omega | (simp; done) | (simp; omega))))); done)
  have k10 : V.cell? ⟨w2.heap.size, 2, none⟩ = some (.int .i64 0) := by rw [← hV]; ((repeat (first | (with_reducible assumption) | ((with_reducible refine c_set_same ?_); ((repeat (first | (with_reducible exact h_of (by assumption)) | (with_reducible assumption) | (with_reducible refine h_set ?_) | ((with_reducible refine h_alloc ?_ ?_); · (first | omega | (simp; done) | (simp; omega))) | ((with_reducible refine h_new ?_ ?_) <;> (first | omega | (simp; done) | (simp; omega))) | (with_reducible refine h_drew ?_) | (with_reducible refine h_drewN ?_) | ((with_reducible refine h_keep (by assumption) ?_ ?_); · (first | omega | (simp; done) | (simp; omega))))); done)) | ((with_reducible refine c_set_other ?_ ?_); · (first | omega | (simp; done) | (simp; omega))) | ((with_reducible refine c_alloc ?_ ?_); · (first | omega | (simp; done) | (simp; omega))) | ((with_reducible refine c_new ?_ ?_) <;> (first | omega | (simp; done) | (simp; omega))) | (with_reducible refine c_drew ?_) | (with_reducible refine c_drewN ?_) | ((with_reducible refine c_keep (by assumption) ?_ ?_); · (first | omega | (simp; done) | (simp; omega))))); done)
  have k11 : V.cell? ⟨w2.heap.size, 3, none⟩ = some (.int .i64 n) := by rw [← hV]; ((repeat (first | (with_reducible assumption) | ((with_reducible refine c_set_same ?_); ((repeat (first | (with_reducible exact h_of (by assumption)) | (with_reducible assumption) | (with_reducible refine h_set ?_) | ((with_reducible refine h_alloc ?_ ?_); · (first | omega | (simp; done) | (simp; omega))) | ((with_reducible refine h_new ?_ ?_) <;> (first | omega | (simp; done) | (simp; omega))) | (with_reducible refine h_drew ?_) | (with_reducible refine h_drewN ?_) | ((with_reducible refine h_keep (by assumption) ?_ ?_); · (first | omega | (simp; done) | (simp; omega))))); done)) | ((with_reducible refine c_set_other ?_ ?_); · (first | omega | (simp; done) | (simp; omega))) | ((with_reducible refine c_alloc ?_ ?_); · (first | omega | (simp; done) | (simp; omega))) | ((with_reducible refine c_new ?_ ?_) <;> (first | omega | (simp; done) | (simp; omega))) | (with_reducible refine c_drew ?_) | (with_reducible refine c_drewN ?_) | ((with_reducible refine c_keep (by assumption) ?_ ?_); · (first | omega | (simp; done) | (simp; omega))))); done)
  have hsV : w2.heap.size < V.heap.size := by rw [← hV]; simp
  have hB : Below w.heap.size w V := by rw [← hV]; ((repeat (first | (with_reducible exact Below.refl _ _) | (with_reducible assumption) | ((with_reducible refine b_set ?_ ?_); · (first | omega | (simp; done) | (simp; omega))) | ((with_reducible refine b_alloc ?_ ?_); · (first | omega | (simp; done) | (simp; omega))) | (with_reducible refine Below.drew ?_) | (with_reducible refine b_drewN ?_) | ((with_reducible refine b_call (by assumption) ?_ ?_); · (first | omega | (simp; done) | (simp; omega))))); done)
  clear hV hb hb2
  refine wp_region_held_drew (S := (fun W => Below V.heap.size V W ∧ True ∧ W.cell? ⟨w.heap.size, 0, none⟩ = some (.int .i64 a) ∧ W.cell? ⟨w.heap.size, 1, none⟩ = some (.int .i64 b) ∧ W.cell? ⟨w.heap.size, 2, none⟩ = some (.int .i64 c) ∧ W.cell? ⟨w.heap.size, 3, none⟩ = some (.int .i64 d) ∧ W.cell? ⟨w1.heap.size, 0, none⟩ = some (.int .i64 0) ∧ W.cell? ⟨w1.heap.size, 1, none⟩ = some (.int .i64 0) ∧ W.cell? ⟨w1.heap.size, 2, none⟩ = some (.int .i64 0) ∧ W.cell? ⟨w1.heap.size, 3, none⟩ = some (.int .i64 n) ∧ W.cell? ⟨w2.heap.size, 0, none⟩ = some (.int .i64 0) ∧ W.cell? ⟨w2.heap.size, 1, none⟩ = some (.int .i64 0) ∧ W.cell? ⟨w2.heap.size, 2, none⟩ = some (.int .i64 0) ∧ W.cell? ⟨w2.heap.size, 3, none⟩ = some (.int .i64 n))) (by kernel_rfl) ⟨(Below.refl _ _).drew, trivial, k0, k1, k2, k3, k4, k5, k6, k7, k8, k9, k10, k11⟩ (fun hHeld => ?_)
  refine wpAnyH_take (i := 0) (oi := ⟨some 23, _, _, _, _, _⟩) (v := ?v0) rfl (by kernel_rfl) (by kernel_rfl) (by kernel_rfl) (fun _ _ _ h => h) (Or.inl ⟨by rfl, ?y0⟩) (by assumption) ?r0
  case y0 => (intro w hSw; (try dsimp only at hSw); (try go_split_ands); go_simp); (try with_reducible rfl)
  case r0 =>
  (try simp only [Act.put, List.setIfInBounds_toArray, List.set_cons_zero, List.set_cons_succ])
  refine wpAnyH_take (i := 1) (oi := ⟨some 24, _, _, _, _, _⟩) (v := ?v1) rfl (by kernel_rfl) (by kernel_rfl) (by kernel_rfl) (fun _ _ _ h => h) (Or.inl ⟨by rfl, ?y1⟩) (by assumption) ?r1
  case y1 => (intro w hSw; (try dsimp only at hSw); (try go_split_ands); go_simp); (try with_reducible rfl)
  case r1 =>
  (try simp only [Act.put, List.setIfInBounds_toArray, List.set_cons_zero, List.set_cons_succ])
  refine wpAnyH_take (i := 2) (oi := ⟨some 25, _, _, _, _, _⟩) (v := ?v2) rfl (by kernel_rfl) (by kernel_rfl) (by kernel_rfl) (fun _ _ _ h => h) (Or.inl ⟨by rfl, ?y2⟩) (by assumption) ?r2
  case y2 => (intro w hSw; (try dsimp only at hSw); (try go_split_ands); go_simp); (try with_reducible rfl)
  case r2 =>
  (try simp only [Act.put, List.setIfInBounds_toArray, List.set_cons_zero, List.set_cons_succ])
  refine wpAnyH_take (i := 3) (oi := ⟨some 26, _, _, _, _, _⟩) (v := ?v3) rfl (by kernel_rfl) (by kernel_rfl) (by kernel_rfl) (fun _ _ _ h => h) (Or.inl ⟨by rfl, ?y3⟩) (by assumption) ?r3
  case y3 => (intro w hSw; (try dsimp only at hSw); (try go_split_ands); go_simp); (try with_reducible rfl)
  case r3 =>
  (try simp only [Act.put, List.setIfInBounds_toArray, List.set_cons_zero, List.set_cons_succ])
  refine wpAnyH_take (i := 4) (oi := ⟨some 27, _, _, _, _, _⟩) (v := ?v4) rfl (by kernel_rfl) (by kernel_rfl) (by kernel_rfl) (fun _ _ _ h => h) (Or.inl ⟨by rfl, ?y4⟩) (by assumption) ?r4
  case y4 => (intro w hSw; (try dsimp only at hSw); (try go_split_ands); go_simp); (try with_reducible rfl)
  case r4 =>
  (try simp only [Act.put, List.setIfInBounds_toArray, List.set_cons_zero, List.set_cons_succ])
  refine wpAnyH_take (i := 5) (oi := ⟨some 28, _, _, _, _, _⟩) (v := ?v5) rfl (by kernel_rfl) (by kernel_rfl) (by kernel_rfl) (fun _ _ _ h => h) (Or.inl ⟨by rfl, ?y5⟩) (by assumption) ?r5
  case y5 => (intro w hSw; (try dsimp only at hSw); (try go_split_ands); go_simp); (try with_reducible rfl)
  case r5 =>
  (try simp only [Act.put, List.setIfInBounds_toArray, List.set_cons_zero, List.set_cons_succ])
  refine wpAnyH_take (i := 6) (oi := ⟨some 29, _, _, _, _, _⟩) (v := ?v6) rfl (by kernel_rfl) (by kernel_rfl) (by kernel_rfl) (fun _ _ _ h => h) (Or.inl ⟨by rfl, ?y6⟩) (by assumption) ?r6
  case y6 => (intro w hSw; (try dsimp only at hSw); (try go_split_ands); go_simp); (try with_reducible rfl)
  case r6 =>
  (try simp only [Act.put, List.setIfInBounds_toArray, List.set_cons_zero, List.set_cons_succ])
  refine wpAnyH_take (i := 7) (oi := ⟨some 30, _, _, _, _, _⟩) (v := ?v7) rfl (by kernel_rfl) (by kernel_rfl) (by kernel_rfl) (fun _ _ _ h => h) (Or.inl ⟨by rfl, ?y7⟩) (by assumption) ?r7
  case y7 => (intro w hSw; (try dsimp only at hSw); (try go_split_ands); go_simp); (try with_reducible rfl)
  case r7 =>
  (try simp only [Act.put, List.setIfInBounds_toArray, List.set_cons_zero, List.set_cons_succ])
  refine wpAnyH_take (i := 8) (oi := ⟨some 31, _, _, _, _, _⟩) (v := ?v8) rfl (by kernel_rfl) (by kernel_rfl) (by kernel_rfl) (fun _ _ _ h => h) (Or.inl ⟨by rfl, ?y8⟩) (by assumption) ?r8
  case y8 => (intro w hSw; (try dsimp only at hSw); (try go_split_ands); go_simp); (try with_reducible rfl)
  case r8 =>
  (try simp only [Act.put, List.setIfInBounds_toArray, List.set_cons_zero, List.set_cons_succ])
  refine wpAnyH_take (i := 9) (oi := ⟨some 32, _, _, _, _, _⟩) (v := ?v9) rfl (by kernel_rfl) (by kernel_rfl) (by kernel_rfl) (fun _ _ _ h => h) (Or.inl ⟨by rfl, ?y9⟩) (by assumption) ?r9
  case y9 => (intro w hSw; (try dsimp only at hSw); (try go_split_ands); go_simp); (try with_reducible rfl)
  case r9 =>
  (try simp only [Act.put, List.setIfInBounds_toArray, List.set_cons_zero, List.set_cons_succ])
  refine wpAnyH_take (i := 11) (oi := ⟨some 34, _, _, _, _, _⟩) (v := ?v11) rfl (by kernel_rfl) (by kernel_rfl) (by kernel_rfl) (fun _ _ _ h => h) (Or.inl ⟨by rfl, ?y11⟩) (by assumption) ?r11
  case y11 => (intro w hSw; (try dsimp only at hSw); (try go_split_ands); go_simp); (try with_reducible rfl)
  case r11 =>
  (try simp only [Act.put, List.setIfInBounds_toArray, List.set_cons_zero, List.set_cons_succ])
  refine wpAnyH_ready (rs := [10]) (by kernel_rfl) (by simp) ?_
  refine AllReadyH.cons (o := ⟨some 33, _, _, _, _, _⟩) rfl (fun K hK => ?_) AllReadyH.nil
  go_simp
  refine (purseIs _ _ _ _ _).mono ?_; rintro e w3 ⟨rfl, hb3⟩
  go_wp2_with fail
  refine hK.out _ _ (by have hh := Below.trans hHeld.1 (Below.mono hb3 (Below.size hHeld.1)); exact ⟨hh, trivial, bkeep hh k0 (by omega), bkeep hh k1 (by omega), bkeep hh k2 (by omega), bkeep hh k3 (by omega), bkeep hh k4 (by omega), bkeep hh k5 (by omega), bkeep hh k6 (by omega), bkeep hh k7 (by omega), bkeep hh k8 (by omega), bkeep hh k9 (by omega), bkeep hh k10 (by omega), bkeep hh k11 (by omega)⟩) (fun hHeld => ?_)
  clear hK K
  (try simp only [Act.put, List.setIfInBounds_toArray, List.set_cons_zero, List.set_cons_succ])
  refine wpAnyH_ready (rs := [12]) (by kernel_rfl) (by simp) ?_
  refine AllReadyH.cons (o := ⟨some 35, _, _, _, _, _⟩) rfl (fun K hK => ?_) AllReadyH.nil
  go_simp
  refine (refPIs _ _ _ _ _).mono ?_; rintro e w3 ⟨rfl, hb3⟩
  go_wp2_with fail
  refine hK.out _ _ (by have hh := Below.trans hHeld.1 (Below.mono hb3 (Below.size hHeld.1)); exact ⟨hh, trivial, bkeep hh k0 (by omega), bkeep hh k1 (by omega), bkeep hh k2 (by omega), bkeep hh k3 (by omega), bkeep hh k4 (by omega), bkeep hh k5 (by omega), bkeep hh k6 (by omega), bkeep hh k7 (by omega), bkeep hh k8 (by omega), bkeep hh k9 (by omega), bkeep hh k10 (by omega), bkeep hh k11 (by omega)⟩) (fun hHeld => ?_)
  clear hK K
  (try simp only [Act.put, List.setIfInBounds_toArray, List.set_cons_zero, List.set_cons_succ])
  refine wpAnyH_take (i := 13) (oi := ⟨some 36, _, _, _, _, _⟩) (v := ?v13) rfl (by kernel_rfl) (by kernel_rfl) (by kernel_rfl) (fun _ _ _ h => h) (Or.inl ⟨by rfl, ?y13⟩) (by assumption) ?r13
  case y13 => (intro w hSw; (try dsimp only at hSw); (try go_split_ands); go_simp); (try with_reducible rfl)
  case r13 =>
  (try simp only [Act.put, List.setIfInBounds_toArray, List.set_cons_zero, List.set_cons_succ])
  refine wpAnyH_take (i := 14) (oi := ⟨some 37, _, _, _, _, _⟩) (v := ?v14) rfl (by kernel_rfl) (by kernel_rfl) (by kernel_rfl) (fun _ _ _ h => h) (Or.inl ⟨by rfl, ?y14⟩) (by assumption) ?r14
  case y14 => (intro w hSw; (try dsimp only at hSw); (try go_split_ands); go_simp); (try with_reducible rfl)
  case r14 =>
  (try simp only [Act.put, List.setIfInBounds_toArray, List.set_cons_zero, List.set_cons_succ])
  refine wpAnyH_take (i := 15) (oi := ⟨some 38, _, _, _, _, _⟩) (v := ?v15) rfl (by kernel_rfl) (by kernel_rfl) (by kernel_rfl) (fun _ _ _ h => h) (Or.inl ⟨by rfl, ?y15⟩) (by assumption) ?r15
  case y15 => (intro w hSw; (try dsimp only at hSw); (try go_split_ands); go_simp); (try with_reducible rfl)
  case r15 =>
  (try simp only [Act.put, List.setIfInBounds_toArray, List.set_cons_zero, List.set_cons_succ])
  refine wpAnyH_ready (rs := [16]) (by kernel_rfl) (by simp) ?_
  refine AllReadyH.cons (o := ⟨some 39, _, _, _, _, _⟩) rfl (fun K hK => ?_) AllReadyH.nil
  go_simp
  refine (purseKnown _).mono ?_; rintro e w3 ⟨rfl, hb3⟩
  go_wp2_with fail
  refine hK.out _ _ (by have hh := Below.trans hHeld.1 (Below.mono hb3 (Below.size hHeld.1)); exact ⟨hh, trivial, bkeep hh k0 (by omega), bkeep hh k1 (by omega), bkeep hh k2 (by omega), bkeep hh k3 (by omega), bkeep hh k4 (by omega), bkeep hh k5 (by omega), bkeep hh k6 (by omega), bkeep hh k7 (by omega), bkeep hh k8 (by omega), bkeep hh k9 (by omega), bkeep hh k10 (by omega), bkeep hh k11 (by omega)⟩) (fun hHeld => ?_)
  clear hK K
  (try simp only [Act.put, List.setIfInBounds_toArray, List.set_cons_zero, List.set_cons_succ])
  refine wpAnyH_take (i := 17) (oi := ⟨some 40, _, _, _, _, _⟩) (v := ?v17) rfl (by kernel_rfl) (by kernel_rfl) (by kernel_rfl) (fun _ _ _ h => h) (Or.inl ⟨by rfl, ?y17⟩) (by assumption) ?r17
  case y17 => (intro w hSw; (try dsimp only at hSw); (try go_split_ands); go_simp); (try with_reducible rfl)
  case r17 =>
  (try simp only [Act.put, List.setIfInBounds_toArray, List.set_cons_zero, List.set_cons_succ])
  refine wpAnyH_take (i := 18) (oi := ⟨some 6, _, _, _, _, _⟩) (v := ?v18) rfl (by kernel_rfl) (by kernel_rfl) (by kernel_rfl) (fun _ _ _ h => h) (Or.inl ⟨by rfl, ?y18⟩) (by assumption) ?r18
  case y18 => (intro w hSw; (try dsimp only at hSw); (try go_split_ands); go_simp); (try with_reducible rfl)
  case r18 =>
  (try simp only [Act.put, List.setIfInBounds_toArray, List.set_cons_zero, List.set_cons_succ])
  refine wpAnyH_done (by kernel_rfl) ?_ _
  go_wp2_with fail
  go_ret
  exact ⟨rfl, hB.trans (Below.mono (And.left (by assumption)) hB.size)⟩

set_option maxHeartbeats 2000000 in
theorem walkOne_4 (i n a b c d : Int) (w : World) (hn : itemB i n = false) :
    Calls Try.prog 3 #[.int .i64 i, .int .i64 n, .agg #[.int .i64 a, .int .i64 b, .int .i64 c, .int .i64 d]] w fun z w' => z = .returned (.bool true) ∧ Below w.heap.size w w' := by
  go_enter Try.func3, Try.ntmps3
  go_wp2_with fail
  refine (purseOne_no _ _ _ hn).mono ?_
  rintro z w1 ⟨rfl, hb⟩
  have hs := hb.size; (try simp at hs)
  obtain ⟨hc, hf⟩ := bcell hb
  go_wp2_with fail
  refine (refOne_no _ _ _ hn).mono ?_
  rintro z w2 ⟨rfl, hb2⟩
  have hs2 := hb2.size; (try simp at hs2)
  clear hc hf
  go_wp2_with fail
  generalize hV : (w2.alloc _ : World) = V
  have k0 : V.cell? ⟨w.heap.size, 0, none⟩ = some (.int .i64 a) := by rw [← hV]; ((repeat (first | (with_reducible assumption) | ((with_reducible refine c_set_same ?_); ((repeat (first | (with_reducible exact h_of (by assumption)) | (with_reducible assumption) | (with_reducible refine h_set ?_) | ((with_reducible refine h_alloc ?_ ?_); · (first | omega | (simp; done) | (simp; omega))) | ((with_reducible refine h_new ?_ ?_) <;> (first | omega | (simp; done) | (simp; omega))) | (with_reducible refine h_drew ?_) | (with_reducible refine h_drewN ?_) | ((with_reducible refine h_keep (by assumption) ?_ ?_); · (first | omega | (simp; done) | (simp; omega))))); done)) | ((with_reducible refine c_set_other ?_ ?_); · (first | omega | (simp; done) | (simp; omega))) | ((with_reducible refine c_alloc ?_ ?_); · (first | omega | (simp; done) | (simp; omega))) | ((with_reducible refine c_new ?_ ?_) <;> (first | omega | (simp; done) | (simp; omega))) | (with_reducible refine c_drew ?_) | (with_reducible refine c_drewN ?_) | ((with_reducible refine c_keep (by assumption) ?_ ?_); · (first | omega | (simp; done) | (simp; omega))))); done)
  have k1 : V.cell? ⟨w.heap.size, 1, none⟩ = some (.int .i64 b) := by rw [← hV]; ((repeat (first | (with_reducible assumption) | ((with_reducible refine c_set_same ?_); ((repeat (first | (with_reducible exact h_of (by assumption)) | (with_reducible assumption) | (with_reducible refine h_set ?_) | ((with_reducible refine h_alloc ?_ ?_); · (first | omega | (simp; done) | (simp; omega))) | ((with_reducible refine h_new ?_ ?_) <;> (first | omega | (simp; done) | (simp; omega))) | (with_reducible refine h_drew ?_) | (with_reducible refine h_drewN ?_) | ((with_reducible refine h_keep (by assumption) ?_ ?_); · (first | omega | (simp; done) | (simp; omega))))); done)) | ((with_reducible refine c_set_other ?_ ?_); · (first | omega | (simp; done) | (simp; omega))) | ((with_reducible refine c_alloc ?_ ?_); · (first | omega | (simp; done) | (simp; omega))) | ((with_reducible refine c_new ?_ ?_) <;> (first | omega | (simp; done) | (simp; omega))) | (with_reducible refine c_drew ?_) | (with_reducible refine c_drewN ?_) | ((with_reducible refine c_keep (by assumption) ?_ ?_); · (first | omega | (simp; done) | (simp; omega))))); done)
  have k2 : V.cell? ⟨w.heap.size, 2, none⟩ = some (.int .i64 c) := by rw [← hV]; ((repeat (first | (with_reducible assumption) | ((with_reducible refine c_set_same ?_); ((repeat (first | (with_reducible exact h_of (by assumption)) | (with_reducible assumption) | (with_reducible refine h_set ?_) | ((with_reducible refine h_alloc ?_ ?_); · (first | omega | (simp; done) | (simp; omega))) | ((with_reducible refine h_new ?_ ?_) <;> (first | omega | (simp; done) | (simp; omega))) | (with_reducible refine h_drew ?_) | (with_reducible refine h_drewN ?_) | ((with_reducible refine h_keep (by assumption) ?_ ?_); · (first | omega | (simp; done) | (simp; omega))))); done)) | ((with_reducible refine c_set_other ?_ ?_); · (first | omega | (simp; done) | (simp; omega))) | ((with_reducible refine c_alloc ?_ ?_); · (first | omega | (simp; done) | (simp; omega))) | ((with_reducible refine c_new ?_ ?_) <;> (first | omega | (simp; done) | (simp; omega))) | (with_reducible refine c_drew ?_) | (with_reducible refine c_drewN ?_) | ((with_reducible refine c_keep (by assumption) ?_ ?_); · (first | omega | (simp; done) | (simp; omega))))); done)
  have k3 : V.cell? ⟨w.heap.size, 3, none⟩ = some (.int .i64 d) := by rw [← hV]; ((repeat (first | (with_reducible assumption) | ((with_reducible refine c_set_same ?_); ((repeat (first | (with_reducible exact h_of (by assumption)) | (with_reducible assumption) | (with_reducible refine h_set ?_) | ((with_reducible refine h_alloc ?_ ?_); · (first | omega | (simp; done) | (simp; omega))) | ((with_reducible refine h_new ?_ ?_) <;> (first | omega | (simp; done) | (simp; omega))) | (with_reducible refine h_drew ?_) | (with_reducible refine h_drewN ?_) | ((with_reducible refine h_keep (by assumption) ?_ ?_); · (first | omega | (simp; done) | (simp; omega))))); done)) | ((with_reducible refine c_set_other ?_ ?_); · (first | omega | (simp; done) | (simp; omega))) | ((with_reducible refine c_alloc ?_ ?_); · (first | omega | (simp; done) | (simp; omega))) | ((with_reducible refine c_new ?_ ?_) <;> (first | omega | (simp; done) | (simp; omega))) | (with_reducible refine c_drew ?_) | (with_reducible refine c_drewN ?_) | ((with_reducible refine c_keep (by assumption) ?_ ?_); · (first | omega | (simp; done) | (simp; omega))))); done)
  have k4 : V.cell? ⟨w1.heap.size, 0, none⟩ = some (.int .i64 0) := by rw [← hV]; ((repeat (first | (with_reducible assumption) | ((with_reducible refine c_set_same ?_); ((repeat (first | (with_reducible exact h_of (by assumption)) | (with_reducible assumption) | (with_reducible refine h_set ?_) | ((with_reducible refine h_alloc ?_ ?_); · (first | omega | (simp; done) | (simp; omega))) | ((with_reducible refine h_new ?_ ?_) <;> (first | omega | (simp; done) | (simp; omega))) | (with_reducible refine h_drew ?_) | (with_reducible refine h_drewN ?_) | ((with_reducible refine h_keep (by assumption) ?_ ?_); · (first | omega | (simp; done) | (simp; omega))))); done)) | ((with_reducible refine c_set_other ?_ ?_); · (first | omega | (simp; done) | (simp; omega))) | ((with_reducible refine c_alloc ?_ ?_); · (first | omega | (simp; done) | (simp; omega))) | ((with_reducible refine c_new ?_ ?_) <;> (first | omega | (simp; done) | (simp; omega))) | (with_reducible refine c_drew ?_) | (with_reducible refine c_drewN ?_) | ((with_reducible refine c_keep (by assumption) ?_ ?_); · (first | omega | (simp; done) | (simp; omega))))); done)
  have k5 : V.cell? ⟨w1.heap.size, 1, none⟩ = some (.int .i64 0) := by rw [← hV]; ((repeat (first | (with_reducible assumption) | ((with_reducible refine c_set_same ?_); ((repeat (first | (with_reducible exact h_of (by assumption)) | (with_reducible assumption) | (with_reducible refine h_set ?_) | ((with_reducible refine h_alloc ?_ ?_); · (first | omega | (simp; done) | (simp; omega))) | ((with_reducible refine h_new ?_ ?_) <;> (first | omega | (simp; done) | (simp; omega))) | (with_reducible refine h_drew ?_) | (with_reducible refine h_drewN ?_) | ((with_reducible refine h_keep (by assumption) ?_ ?_); · (first | omega | (simp; done) | (simp; omega))))); done)) | ((with_reducible refine c_set_other ?_ ?_); · (first | omega | (simp; done) | (simp; omega))) | ((with_reducible refine c_alloc ?_ ?_); · (first | omega | (simp; done) | (simp; omega))) | ((with_reducible refine c_new ?_ ?_) <;> (first | omega | (simp; done) | (simp; omega))) | (with_reducible refine c_drew ?_) | (with_reducible refine c_drewN ?_) | ((with_reducible refine c_keep (by assumption) ?_ ?_); · (first | omega | (simp; done) | (simp; omega))))); done)
  have k6 : V.cell? ⟨w1.heap.size, 2, none⟩ = some (.int .i64 0) := by rw [← hV]; ((repeat (first | (with_reducible assumption) | ((with_reducible refine c_set_same ?_); ((repeat (first | (with_reducible exact h_of (by assumption)) | (with_reducible assumption) | (with_reducible refine h_set ?_) | ((with_reducible refine h_alloc ?_ ?_); · (first | omega | (simp; done) | (simp; omega))) | ((with_reducible refine h_new ?_ ?_) <;> (first | omega | (simp; done) | (simp; omega))) | (with_reducible refine h_drew ?_) | (with_reducible refine h_drewN ?_) | ((with_reducible refine h_keep (by assumption) ?_ ?_); · (first | omega | (simp; done) | (simp; omega))))); done)) | ((with_reducible refine c_set_other ?_ ?_); · (first | omega | (simp; done) | (simp; omega))) | ((with_reducible refine c_alloc ?_ ?_); · (first | omega | (simp; done) | (simp; omega))) | ((with_reducible refine c_new ?_ ?_) <;> (first | omega | (simp; done) | (simp; omega))) | (with_reducible refine c_drew ?_) | (with_reducible refine c_drewN ?_) | ((with_reducible refine c_keep (by assumption) ?_ ?_); · (first | omega | (simp; done) | (simp; omega))))); done)
  have k7 : V.cell? ⟨w1.heap.size, 3, none⟩ = some (.int .i64 0) := by rw [← hV]; ((repeat (first | (with_reducible assumption) | ((with_reducible refine c_set_same ?_); ((repeat (first | (with_reducible exact h_of (by assumption)) | (with_reducible assumption) | (with_reducible refine h_set ?_) | ((with_reducible refine h_alloc ?_ ?_); · (first | omega | (simp; done) | (simp; omega))) | ((with_reducible refine h_new ?_ ?_) <;> (first | omega | (simp; done) | (simp; omega))) | (with_reducible refine h_drew ?_) | (with_reducible refine h_drewN ?_) | ((with_reducible refine h_keep (by assumption) ?_ ?_); · (first | omega | (simp; done) | (simp; omega))))); done)) | ((with_reducible refine c_set_other ?_ ?_); · (first | omega | (simp; done) | (simp; omega))) | ((with_reducible refine c_alloc ?_ ?_); · (first | omega | (simp; done) | (simp; omega))) | ((with_reducible refine c_new ?_ ?_) <;> (first | omega | (simp; done) | (simp; omega))) | (with_reducible refine c_drew ?_) | (with_reducible refine c_drewN ?_) | ((with_reducible refine c_keep (by assumption) ?_ ?_); · (first | omega | (simp; done) | (simp; omega))))); done)
  have k8 : V.cell? ⟨w2.heap.size, 0, none⟩ = some (.int .i64 0) := by rw [← hV]; ((repeat (first | (with_reducible assumption) | ((with_reducible refine c_set_same ?_); ((repeat (first | (with_reducible exact h_of (by assumption)) | (with_reducible assumption) | (with_reducible refine h_set ?_) | ((with_reducible refine h_alloc ?_ ?_); · (first | omega | (simp; done) | (simp; omega))) | ((with_reducible refine h_new ?_ ?_) <;> (first | omega | (simp; done) | (simp; omega))) | (with_reducible refine h_drew ?_) | (with_reducible refine h_drewN ?_) | ((with_reducible refine h_keep (by assumption) ?_ ?_); · (first | omega | (simp; done) | (simp; omega))))); done)) | ((with_reducible refine c_set_other ?_ ?_); · (first | omega | (simp; done) | (simp; omega))) | ((with_reducible refine c_alloc ?_ ?_); · (first | omega | (simp; done) | (simp; omega))) | ((with_reducible refine c_new ?_ ?_) <;> (first | omega | (simp; done) | (simp; omega))) | (with_reducible refine c_drew ?_) | (with_reducible refine c_drewN ?_) | ((with_reducible refine c_keep (by assumption) ?_ ?_); · (first | omega | (simp; done) | (simp; omega))))); done)
  have k9 : V.cell? ⟨w2.heap.size, 1, none⟩ = some (.int .i64 0) := by rw [← hV]; ((repeat (first | (with_reducible assumption) | ((with_reducible refine c_set_same ?_); ((repeat (first | (with_reducible exact h_of (by assumption)) | (with_reducible assumption) | (with_reducible refine h_set ?_) | ((with_reducible refine h_alloc ?_ ?_); · (first | omega | (simp; done) | (simp; omega))) | ((with_reducible refine h_new ?_ ?_) <;> (first | omega | (simp; done) | (simp; omega))) | (with_reducible refine h_drew ?_) | (with_reducible refine h_drewN ?_) | ((with_reducible refine h_keep (by assumption) ?_ ?_); · (first | omega | (simp; done) | (simp; omega))))); done)) | ((with_reducible refine c_set_other ?_ ?_); · (first | omega | (simp; done) | (simp; omega))) | ((with_reducible refine c_alloc ?_ ?_); · (first | omega | (simp; done) | (simp; omega))) | ((with_reducible refine c_new ?_ ?_) <;> (first | omega | (simp; done) | (simp; omega))) | (with_reducible refine c_drew ?_) | (with_reducible refine c_drewN ?_) | ((with_reducible refine c_keep (by assumption) ?_ ?_); · (first | omega | (simp; done) | (simp; omega))))); done)
  have k10 : V.cell? ⟨w2.heap.size, 2, none⟩ = some (.int .i64 0) := by rw [← hV]; ((repeat (first | (with_reducible assumption) | ((with_reducible refine c_set_same ?_); ((repeat (first | (with_reducible exact h_of (by assumption)) | (with_reducible assumption) | (with_reducible refine h_set ?_) | ((with_reducible refine h_alloc ?_ ?_); · (first | omega | (simp; done) | (simp; omega))) | ((with_reducible refine h_new ?_ ?_) <;> (first | omega | (simp; done) | (simp; omega))) | (with_reducible refine h_drew ?_) | (with_reducible refine h_drewN ?_) | ((with_reducible refine h_keep (by assumption) ?_ ?_); · (first | omega | (simp; done) | (simp; omega))))); done)) | ((with_reducible refine c_set_other ?_ ?_); · (first | omega | (simp; done) | (simp; omega))) | ((with_reducible refine c_alloc ?_ ?_); · (first | omega | (simp; done) | (simp; omega))) | ((with_reducible refine c_new ?_ ?_) <;> (first | omega | (simp; done) | (simp; omega))) | (with_reducible refine c_drew ?_) | (with_reducible refine c_drewN ?_) | ((with_reducible refine c_keep (by assumption) ?_ ?_); · (first | omega | (simp; done) | (simp; omega))))); done)
  have k11 : V.cell? ⟨w2.heap.size, 3, none⟩ = some (.int .i64 0) := by rw [← hV]; ((repeat (first | (with_reducible assumption) | ((with_reducible refine c_set_same ?_); ((repeat (first | (with_reducible exact h_of (by assumption)) | (with_reducible assumption) | (with_reducible refine h_set ?_) | ((with_reducible refine h_alloc ?_ ?_); · (first | omega | (simp; done) | (simp; omega))) | ((with_reducible refine h_new ?_ ?_) <;> (first | omega | (simp; done) | (simp; omega))) | (with_reducible refine h_drew ?_) | (with_reducible refine h_drewN ?_) | ((with_reducible refine h_keep (by assumption) ?_ ?_); · (first | omega | (simp; done) | (simp; omega))))); done)) | ((with_reducible refine c_set_other ?_ ?_); · (first | omega | (simp; done) | (simp; omega))) | ((with_reducible refine c_alloc ?_ ?_); · (first | omega | (simp; done) | (simp; omega))) | ((with_reducible refine c_new ?_ ?_) <;> (first | omega | (simp; done) | (simp; omega))) | (with_reducible refine c_drew ?_) | (with_reducible refine c_drewN ?_) | ((with_reducible refine c_keep (by assumption) ?_ ?_); · (first | omega | (simp; done) | (simp; omega))))); done)
  have hsV : w2.heap.size < V.heap.size := by rw [← hV]; simp
  have hB : Below w.heap.size w V := by rw [← hV]; ((repeat (first | (with_reducible exact Below.refl _ _) | (with_reducible assumption) | ((with_reducible refine b_set ?_ ?_); · (first | omega | (simp; done) | (simp; omega))) | ((with_reducible refine b_alloc ?_ ?_); · (first | omega | (simp; done) | (simp; omega))) | (with_reducible refine Below.drew ?_) | (with_reducible refine b_drewN ?_) | ((with_reducible refine b_call (by assumption) ?_ ?_); · (first | omega | (simp; done) | (simp; omega))))); done)
  clear hV hb hb2
  refine wp_region_held_drew (S := (fun W => Below V.heap.size V W ∧ True ∧ W.cell? ⟨w.heap.size, 0, none⟩ = some (.int .i64 a) ∧ W.cell? ⟨w.heap.size, 1, none⟩ = some (.int .i64 b) ∧ W.cell? ⟨w.heap.size, 2, none⟩ = some (.int .i64 c) ∧ W.cell? ⟨w.heap.size, 3, none⟩ = some (.int .i64 d) ∧ W.cell? ⟨w1.heap.size, 0, none⟩ = some (.int .i64 0) ∧ W.cell? ⟨w1.heap.size, 1, none⟩ = some (.int .i64 0) ∧ W.cell? ⟨w1.heap.size, 2, none⟩ = some (.int .i64 0) ∧ W.cell? ⟨w1.heap.size, 3, none⟩ = some (.int .i64 0) ∧ W.cell? ⟨w2.heap.size, 0, none⟩ = some (.int .i64 0) ∧ W.cell? ⟨w2.heap.size, 1, none⟩ = some (.int .i64 0) ∧ W.cell? ⟨w2.heap.size, 2, none⟩ = some (.int .i64 0) ∧ W.cell? ⟨w2.heap.size, 3, none⟩ = some (.int .i64 0))) (by kernel_rfl) ⟨(Below.refl _ _).drew, trivial, k0, k1, k2, k3, k4, k5, k6, k7, k8, k9, k10, k11⟩ (fun hHeld => ?_)
  refine wpAnyH_take (i := 0) (oi := ⟨some 23, _, _, _, _, _⟩) (v := ?v0) rfl (by kernel_rfl) (by kernel_rfl) (by kernel_rfl) (fun _ _ _ h => h) (Or.inl ⟨by rfl, ?y0⟩) (by assumption) ?r0
  case y0 => (intro w hSw; (try dsimp only at hSw); (try go_split_ands); go_simp); (try with_reducible rfl)
  case r0 =>
  (try simp only [Act.put, List.setIfInBounds_toArray, List.set_cons_zero, List.set_cons_succ])
  refine wpAnyH_take (i := 1) (oi := ⟨some 24, _, _, _, _, _⟩) (v := ?v1) rfl (by kernel_rfl) (by kernel_rfl) (by kernel_rfl) (fun _ _ _ h => h) (Or.inl ⟨by rfl, ?y1⟩) (by assumption) ?r1
  case y1 => (intro w hSw; (try dsimp only at hSw); (try go_split_ands); go_simp); (try with_reducible rfl)
  case r1 =>
  (try simp only [Act.put, List.setIfInBounds_toArray, List.set_cons_zero, List.set_cons_succ])
  refine wpAnyH_take (i := 2) (oi := ⟨some 25, _, _, _, _, _⟩) (v := ?v2) rfl (by kernel_rfl) (by kernel_rfl) (by kernel_rfl) (fun _ _ _ h => h) (Or.inl ⟨by rfl, ?y2⟩) (by assumption) ?r2
  case y2 => (intro w hSw; (try dsimp only at hSw); (try go_split_ands); go_simp); (try with_reducible rfl)
  case r2 =>
  (try simp only [Act.put, List.setIfInBounds_toArray, List.set_cons_zero, List.set_cons_succ])
  refine wpAnyH_take (i := 3) (oi := ⟨some 26, _, _, _, _, _⟩) (v := ?v3) rfl (by kernel_rfl) (by kernel_rfl) (by kernel_rfl) (fun _ _ _ h => h) (Or.inl ⟨by rfl, ?y3⟩) (by assumption) ?r3
  case y3 => (intro w hSw; (try dsimp only at hSw); (try go_split_ands); go_simp); (try with_reducible rfl)
  case r3 =>
  (try simp only [Act.put, List.setIfInBounds_toArray, List.set_cons_zero, List.set_cons_succ])
  refine wpAnyH_take (i := 4) (oi := ⟨some 27, _, _, _, _, _⟩) (v := ?v4) rfl (by kernel_rfl) (by kernel_rfl) (by kernel_rfl) (fun _ _ _ h => h) (Or.inl ⟨by rfl, ?y4⟩) (by assumption) ?r4
  case y4 => (intro w hSw; (try dsimp only at hSw); (try go_split_ands); go_simp); (try with_reducible rfl)
  case r4 =>
  (try simp only [Act.put, List.setIfInBounds_toArray, List.set_cons_zero, List.set_cons_succ])
  refine wpAnyH_take (i := 5) (oi := ⟨some 28, _, _, _, _, _⟩) (v := ?v5) rfl (by kernel_rfl) (by kernel_rfl) (by kernel_rfl) (fun _ _ _ h => h) (Or.inl ⟨by rfl, ?y5⟩) (by assumption) ?r5
  case y5 => (intro w hSw; (try dsimp only at hSw); (try go_split_ands); go_simp); (try with_reducible rfl)
  case r5 =>
  (try simp only [Act.put, List.setIfInBounds_toArray, List.set_cons_zero, List.set_cons_succ])
  refine wpAnyH_take (i := 6) (oi := ⟨some 29, _, _, _, _, _⟩) (v := ?v6) rfl (by kernel_rfl) (by kernel_rfl) (by kernel_rfl) (fun _ _ _ h => h) (Or.inl ⟨by rfl, ?y6⟩) (by assumption) ?r6
  case y6 => (intro w hSw; (try dsimp only at hSw); (try go_split_ands); go_simp); (try with_reducible rfl)
  case r6 =>
  (try simp only [Act.put, List.setIfInBounds_toArray, List.set_cons_zero, List.set_cons_succ])
  refine wpAnyH_take (i := 7) (oi := ⟨some 30, _, _, _, _, _⟩) (v := ?v7) rfl (by kernel_rfl) (by kernel_rfl) (by kernel_rfl) (fun _ _ _ h => h) (Or.inl ⟨by rfl, ?y7⟩) (by assumption) ?r7
  case y7 => (intro w hSw; (try dsimp only at hSw); (try go_split_ands); go_simp); (try with_reducible rfl)
  case r7 =>
  (try simp only [Act.put, List.setIfInBounds_toArray, List.set_cons_zero, List.set_cons_succ])
  refine wpAnyH_take (i := 8) (oi := ⟨some 31, _, _, _, _, _⟩) (v := ?v8) rfl (by kernel_rfl) (by kernel_rfl) (by kernel_rfl) (fun _ _ _ h => h) (Or.inl ⟨by rfl, ?y8⟩) (by assumption) ?r8
  case y8 => (intro w hSw; (try dsimp only at hSw); (try go_split_ands); go_simp); (try with_reducible rfl)
  case r8 =>
  (try simp only [Act.put, List.setIfInBounds_toArray, List.set_cons_zero, List.set_cons_succ])
  refine wpAnyH_take (i := 9) (oi := ⟨some 32, _, _, _, _, _⟩) (v := ?v9) rfl (by kernel_rfl) (by kernel_rfl) (by kernel_rfl) (fun _ _ _ h => h) (Or.inl ⟨by rfl, ?y9⟩) (by assumption) ?r9
  case y9 => (intro w hSw; (try dsimp only at hSw); (try go_split_ands); go_simp); (try with_reducible rfl)
  case r9 =>
  (try simp only [Act.put, List.setIfInBounds_toArray, List.set_cons_zero, List.set_cons_succ])
  refine wpAnyH_take (i := 11) (oi := ⟨some 34, _, _, _, _, _⟩) (v := ?v11) rfl (by kernel_rfl) (by kernel_rfl) (by kernel_rfl) (fun _ _ _ h => h) (Or.inl ⟨by rfl, ?y11⟩) (by assumption) ?r11
  case y11 => (intro w hSw; (try dsimp only at hSw); (try go_split_ands); go_simp); (try with_reducible rfl)
  case r11 =>
  (try simp only [Act.put, List.setIfInBounds_toArray, List.set_cons_zero, List.set_cons_succ])
  refine wpAnyH_ready (rs := [10]) (by kernel_rfl) (by simp) ?_
  refine AllReadyH.cons (o := ⟨some 33, _, _, _, _, _⟩) rfl (fun K hK => ?_) AllReadyH.nil
  go_simp
  refine (purseIs _ _ _ _ _).mono ?_; rintro e w3 ⟨rfl, hb3⟩
  go_wp2_with fail
  refine hK.out _ _ (by have hh := Below.trans hHeld.1 (Below.mono hb3 (Below.size hHeld.1)); exact ⟨hh, trivial, bkeep hh k0 (by omega), bkeep hh k1 (by omega), bkeep hh k2 (by omega), bkeep hh k3 (by omega), bkeep hh k4 (by omega), bkeep hh k5 (by omega), bkeep hh k6 (by omega), bkeep hh k7 (by omega), bkeep hh k8 (by omega), bkeep hh k9 (by omega), bkeep hh k10 (by omega), bkeep hh k11 (by omega)⟩) (fun hHeld => ?_)
  clear hK K
  (try simp only [Act.put, List.setIfInBounds_toArray, List.set_cons_zero, List.set_cons_succ])
  refine wpAnyH_ready (rs := [12]) (by kernel_rfl) (by simp) ?_
  refine AllReadyH.cons (o := ⟨some 35, _, _, _, _, _⟩) rfl (fun K hK => ?_) AllReadyH.nil
  go_simp
  refine (refPIs _ _ _ _ _).mono ?_; rintro e w3 ⟨rfl, hb3⟩
  go_wp2_with fail
  refine hK.out _ _ (by have hh := Below.trans hHeld.1 (Below.mono hb3 (Below.size hHeld.1)); exact ⟨hh, trivial, bkeep hh k0 (by omega), bkeep hh k1 (by omega), bkeep hh k2 (by omega), bkeep hh k3 (by omega), bkeep hh k4 (by omega), bkeep hh k5 (by omega), bkeep hh k6 (by omega), bkeep hh k7 (by omega), bkeep hh k8 (by omega), bkeep hh k9 (by omega), bkeep hh k10 (by omega), bkeep hh k11 (by omega)⟩) (fun hHeld => ?_)
  clear hK K
  (try simp only [Act.put, List.setIfInBounds_toArray, List.set_cons_zero, List.set_cons_succ])
  refine wpAnyH_take (i := 13) (oi := ⟨some 36, _, _, _, _, _⟩) (v := ?v13) rfl (by kernel_rfl) (by kernel_rfl) (by kernel_rfl) (fun _ _ _ h => h) (Or.inl ⟨by rfl, ?y13⟩) (by assumption) ?r13
  case y13 => (intro w hSw; (try dsimp only at hSw); (try go_split_ands); go_simp); (try with_reducible rfl)
  case r13 =>
  (try simp only [Act.put, List.setIfInBounds_toArray, List.set_cons_zero, List.set_cons_succ])
  refine wpAnyH_take (i := 14) (oi := ⟨some 37, _, _, _, _, _⟩) (v := ?v14) rfl (by kernel_rfl) (by kernel_rfl) (by kernel_rfl) (fun _ _ _ h => h) (Or.inl ⟨by rfl, ?y14⟩) (by assumption) ?r14
  case y14 => (intro w hSw; (try dsimp only at hSw); (try go_split_ands); go_simp); (try with_reducible rfl)
  case r14 =>
  (try simp only [Act.put, List.setIfInBounds_toArray, List.set_cons_zero, List.set_cons_succ])
  refine wpAnyH_take (i := 15) (oi := ⟨some 38, _, _, _, _, _⟩) (v := ?v15) rfl (by kernel_rfl) (by kernel_rfl) (by kernel_rfl) (fun _ _ _ h => h) (Or.inl ⟨by rfl, ?y15⟩) (by assumption) ?r15
  case y15 => (intro w hSw; (try dsimp only at hSw); (try go_split_ands); go_simp); (try with_reducible rfl)
  case r15 =>
  (try simp only [Act.put, List.setIfInBounds_toArray, List.set_cons_zero, List.set_cons_succ])
  refine wpAnyH_ready (rs := [16]) (by kernel_rfl) (by simp) ?_
  refine AllReadyH.cons (o := ⟨some 39, _, _, _, _, _⟩) rfl (fun K hK => ?_) AllReadyH.nil
  go_simp
  refine (purseKnown _).mono ?_; rintro e w3 ⟨rfl, hb3⟩
  go_wp2_with fail
  refine hK.out _ _ (by have hh := Below.trans hHeld.1 (Below.mono hb3 (Below.size hHeld.1)); exact ⟨hh, trivial, bkeep hh k0 (by omega), bkeep hh k1 (by omega), bkeep hh k2 (by omega), bkeep hh k3 (by omega), bkeep hh k4 (by omega), bkeep hh k5 (by omega), bkeep hh k6 (by omega), bkeep hh k7 (by omega), bkeep hh k8 (by omega), bkeep hh k9 (by omega), bkeep hh k10 (by omega), bkeep hh k11 (by omega)⟩) (fun hHeld => ?_)
  clear hK K
  (try simp only [Act.put, List.setIfInBounds_toArray, List.set_cons_zero, List.set_cons_succ])
  refine wpAnyH_take (i := 17) (oi := ⟨some 40, _, _, _, _, _⟩) (v := ?v17) rfl (by kernel_rfl) (by kernel_rfl) (by kernel_rfl) (fun _ _ _ h => h) (Or.inl ⟨by rfl, ?y17⟩) (by assumption) ?r17
  case y17 => (intro w hSw; (try dsimp only at hSw); (try go_split_ands); go_simp); (try with_reducible rfl)
  case r17 =>
  (try simp only [Act.put, List.setIfInBounds_toArray, List.set_cons_zero, List.set_cons_succ])
  refine wpAnyH_take (i := 18) (oi := ⟨some 6, _, _, _, _, _⟩) (v := ?v18) rfl (by kernel_rfl) (by kernel_rfl) (by kernel_rfl) (fun _ _ _ h => h) (Or.inl ⟨by rfl, ?y18⟩) (by assumption) ?r18
  case y18 => (intro w hSw; (try dsimp only at hSw); (try go_split_ands); go_simp); (try with_reducible rfl)
  case r18 =>
  (try simp only [Act.put, List.setIfInBounds_toArray, List.set_cons_zero, List.set_cons_succ])
  refine wpAnyH_done (by kernel_rfl) ?_ _
  go_wp2_with fail
  go_ret
  exact ⟨rfl, hB.trans (Below.mono (And.left (by assumption)) hB.size)⟩

theorem walkOne (i n a b c d : Int) (w : World) :
    Calls Try.prog 3 #[.int .i64 i, .int .i64 n, .agg #[.int .i64 a, .int .i64 b, .int .i64 c, .int .i64 d]] w fun z w' => z = .returned (.bool true) ∧ Below w.heap.size w w' := by
  cases hn : itemB i n
  · exact walkOne_4 i n a b c d w hn
  · unfold itemB at hn
    simp only [Bool.and_eq_true, decide_eq_true_eq] at hn
    obtain ⟨⟨h1, h2⟩, h3⟩ := hn
    have : i = 0 ∨ i = 1 ∨ i = 2 ∨ i = 3 := by omega
    rcases this with rfl | rfl | rfl | rfl
    · exact walkOne_0 n a b c d w h3
    · exact walkOne_1 n a b c d w h3
    · exact walkOne_2 n a b c d w h3
    · exact walkOne_3 n a b c d w h3

end Go.Proofs.Ytbeebcocedmjkaa
