/- The walk of the law PurseAdds: it returns true. -/
import Derived.Test.YtbeebcocedmjkaaPurseD
import Derived.Test.YtbeebcocedmjkaaPurses
import Derived.Deep.Light
namespace Go.Proofs.Ytbeebcocedmjkaa
open Go.RowKit
set_option linter.unusedVariables false
set_option linter.unusedSimpArgs false

set_option maxHeartbeats 2000000 in
theorem walkAdds_0 (A : Option Addr) (c : Nat) (xs : List Q) (w : World) (hc : xs.length ≤ c) (hm : c ≤ maxLen) (hx : Cells w w.heap.size A xs.length c 4 (flatQ xs)) (hl : xs.length ≤ 200) (ha : addTo (0, 0, 0, 0) xs = none) :
    Calls Try.prog 4 #[.slice A xs.length c] w fun z w' => z = .returned (.bool true) ∧ Below w.heap.size w w' := by
  obtain ⟨i0, hi, hz0, hz1, hz2⟩ := info_parts Try.infoItems
  have HA := Lib.hid ha
  have HX := Lib.hid hx
  have HX1 := Lib.hid (cells_keep (w1 := w.alloc (.cells #[] 23)) (B' := w.heap.size) hx ((Below.refl _ _).alloc (Nat.le_refl _) _) (Nat.le_refl _))
  clear hx ha
  have hl2 : decide ((200 : Int) < (xs.length : Int)) = false := by simp; omega
  go_enter Try.func4, Try.ntmps4
  go_wp2_with (at_builtin; go_must (refine wpList_append_row rfl (.tmp 12) (.tmp 13) 29 rfl w.heap.size 23 i0 (.agg #[.int .i64 0, .int .i64 0, .int .i64 0, .int .i64 0]) 4 32 Try.underlying29 hi hz0 hz1 hz2 rfl (by decide) _ 0 [] rfl (World.ownsRow_lit w #[] 0 (Nat.le_refl _) (by decide) rfl) w.heap.size A xs.length c (flatQ xs) rfl HX1.out (flatQ_one _) (by unfold maxLen; omega) (by omega) (by (first | omega | (simp; done) | (simp; omega))) ?_); intro v1 w1 hown hb)
  simp only [Nat.zero_add, List.nil_append] at hown
  obtain ⟨A', cp, rfl, hc1, hm1, hx1⟩ := owns_cells hown
  have hB : Below w.heap.size w w1 := ((Below.refl w.heap.size w).alloc (Nat.le_refl _) _).trans hb
  have hs1 := hB.size
  have HX2 := Lib.hid hx1
  clear hown hb hx1
  refine (purseAdd A' cp xs _ (by omega) (purses_of HX2.out)).mono ?_
  rintro z w2 ⟨hz, hb2⟩
  obtain rfl : z = .returned (.tuple #[.agg #[.int .i64 0, .int .i64 0, .int .i64 0, .int .i64 0], .bool false]) := by rw [hz, HA.out]; rfl
  clear hz
  have hB2 : Below w.heap.size w w2 := hB.trans (hb2.mono hs1)
  have hs2 := hb2.size
  have HX3 := Lib.hid (cells_keep HX2.out hb2 (Nat.le_refl _))
  clear hb2 HX2
  go_wp2_with fail
  refine (refAdd A c xs _ (by omega) (purses_of (cells_keep HX.out (Below.trans hB2 ((Below.refl _ _).alloc (by omega) _)) (by simp; omega)))).mono ?_
  rintro z w3 ⟨hz, hb3⟩
  have hs3 := hb3.size; (try simp at hs3)
  obtain rfl : z = .returned (.tuple #[.agg #[.int .i64 0, .int .i64 0, .int .i64 0, .int .i64 0], .bool false]) := by rw [hz, HA.out]; rfl
  clear hz
  have HX4 := Lib.hid (cells_keep (w1 := w3) (B' := w2.heap.size) HX3.out (by ((repeat (first | (with_reducible exact Below.refl _ _) | (with_reducible assumption) | ((with_reducible refine b_set ?_ ?_); · (first | omega | (simp; done) | (simp; omega))) | ((with_reducible refine b_alloc ?_ ?_); · (first | omega | (simp; done) | (simp; omega))) | (with_reducible refine Below.drew ?_) | (with_reducible refine b_drewN ?_) | ((with_reducible refine b_call (by assumption) ?_ ?_); · (first | omega | (simp; done) | (simp; omega))))); done)) hs2)
  have k0 : w3.cell? ⟨w2.heap.size, 0, none⟩ = some (.int .i64 0) := by ((repeat (first | (with_reducible assumption) | ((with_reducible refine c_set_same ?_); ((repeat (first | (with_reducible exact h_of (by assumption)) | (with_reducible assumption) | (with_reducible refine h_set ?_) | ((with_reducible refine h_alloc ?_ ?_); · (first | omega | (simp; done) | (simp; omega))) | ((with_reducible refine h_new ?_ ?_) <;> (first | omega | (simp; done) | (simp; omega))) | (with_reducible refine h_drew ?_) | (with_reducible refine h_drewN ?_) | ((with_reducible refine h_keep (by assumption) ?_ ?_); · (first | omega | (simp; done) | (simp; omega))))); done)) | ((with_reducible refine c_set_other ?_ ?_); · (first | omega | (simp; done) | (simp; omega))) | ((with_reducible refine c_alloc ?_ ?_); · (first | omega | (simp; done) | (simp; omega))) | ((with_reducible refine c_new ?_ ?_) <;> (first | omega | (simp; done) | (simp; omega))) | (with_reducible refine c_drew ?_) | (with_reducible refine c_drewN ?_) | ((with_reducible refine c_keep (by assumption) ?_ ?_); · (first | omega | (simp; done) | (simp; omega))))); done)
  have k1 : w3.cell? ⟨w2.heap.size, 1, none⟩ = some (.int .i64 0) := by ((repeat (first | (with_reducible assumption) | ((with_reducible refine c_set_same ?_); ((repeat (first | (with_reducible exact h_of (by assumption)) | (with_reducible assumption) | (with_reducible refine h_set ?_) | ((with_reducible refine h_alloc ?_ ?_); · (first | omega | (simp; done) | (simp; omega))) | ((with_reducible refine h_new ?_ ?_) <;> (first | omega | (simp; done) | (simp; omega))) | (with_reducible refine h_drew ?_) | (with_reducible refine h_drewN ?_) | ((with_reducible refine h_keep (by assumption) ?_ ?_); · (first | omega | (simp; done) | (simp; omega))))); done)) | ((with_reducible refine c_set_other ?_ ?_); · (first | omega | (simp; done) | (simp; omega))) | ((with_reducible refine c_alloc ?_ ?_); · (first | omega | (simp; done) | (simp; omega))) | ((with_reducible refine c_new ?_ ?_) <;> (first | omega | (simp; done) | (simp; omega))) | (with_reducible refine c_drew ?_) | (with_reducible refine c_drewN ?_) | ((with_reducible refine c_keep (by assumption) ?_ ?_); · (first | omega | (simp; done) | (simp; omega))))); done)
  have k2 : w3.cell? ⟨w2.heap.size, 2, none⟩ = some (.int .i64 0) := by ((repeat (first | (with_reducible assumption) | ((with_reducible refine c_set_same ?_); ((repeat (first | (with_reducible exact h_of (by assumption)) | (with_reducible assumption) | (with_reducible refine h_set ?_) | ((with_reducible refine h_alloc ?_ ?_); · (first | omega | (simp; done) | (simp; omega))) | ((with_reducible refine h_new ?_ ?_) <;> (first | omega | (simp; done) | (simp; omega))) | (with_reducible refine h_drew ?_) | (with_reducible refine h_drewN ?_) | ((with_reducible refine h_keep (by assumption) ?_ ?_); · (first | omega | (simp; done) | (simp; omega))))); done)) | ((with_reducible refine c_set_other ?_ ?_); · (first | omega | (simp; done) | (simp; omega))) | ((with_reducible refine c_alloc ?_ ?_); · (first | omega | (simp; done) | (simp; omega))) | ((with_reducible refine c_new ?_ ?_) <;> (first | omega | (simp; done) | (simp; omega))) | (with_reducible refine c_drew ?_) | (with_reducible refine c_drewN ?_) | ((with_reducible refine c_keep (by assumption) ?_ ?_); · (first | omega | (simp; done) | (simp; omega))))); done)
  have k3 : w3.cell? ⟨w2.heap.size, 3, none⟩ = some (.int .i64 0) := by ((repeat (first | (with_reducible assumption) | ((with_reducible refine c_set_same ?_); ((repeat (first | (with_reducible exact h_of (by assumption)) | (with_reducible assumption) | (with_reducible refine h_set ?_) | ((with_reducible refine h_alloc ?_ ?_); · (first | omega | (simp; done) | (simp; omega))) | ((with_reducible refine h_new ?_ ?_) <;> (first | omega | (simp; done) | (simp; omega))) | (with_reducible refine h_drew ?_) | (with_reducible refine h_drewN ?_) | ((with_reducible refine h_keep (by assumption) ?_ ?_); · (first | omega | (simp; done) | (simp; omega))))); done)) | ((with_reducible refine c_set_other ?_ ?_); · (first | omega | (simp; done) | (simp; omega))) | ((with_reducible refine c_alloc ?_ ?_); · (first | omega | (simp; done) | (simp; omega))) | ((with_reducible refine c_new ?_ ?_) <;> (first | omega | (simp; done) | (simp; omega))) | (with_reducible refine c_drew ?_) | (with_reducible refine c_drewN ?_) | ((with_reducible refine c_keep (by assumption) ?_ ?_); · (first | omega | (simp; done) | (simp; omega))))); done)
  have hB3 : Below w.heap.size w w3 := by ((repeat (first | (with_reducible exact Below.refl _ _) | (with_reducible assumption) | ((with_reducible refine b_set ?_ ?_); · (first | omega | (simp; done) | (simp; omega))) | ((with_reducible refine b_alloc ?_ ?_); · (first | omega | (simp; done) | (simp; omega))) | (with_reducible refine Below.drew ?_) | (with_reducible refine b_drewN ?_) | ((with_reducible refine b_call (by assumption) ?_ ?_); · (first | omega | (simp; done) | (simp; omega))))); done)
  clear HX3 HX1 hB hB2 hb3
  go_wp2_with fail
  go_loopw [8] (fun i wr => ∃ k : Nat, k ≤ xs.length ∧ i = .int .i64 k ∧ Below (w3.heap.size + 1) (w3.alloc (.cells #[.int .i64 0, .int .i64 0, .int .i64 0, .int .i64 0] 23)) wr) (fun i _ => xs.length - (intOf i).toNat)
  case atStart => exact ⟨0, by omega, rfl, Below.refl _ _⟩
  case round =>
    obtain ⟨k, hk, rfl, hW⟩ := hrel
    have hsW := hW.size; (try simp at hsW)
    by_cases hlt : k < xs.length
    · obtain ⟨b, o, rfl, hb, x0, x1, x2, x3⟩ := purses_of (cells_keep HX.out hB3 (Nat.le_refl _)) k hlt
      obtain ⟨b', o', rfl, hb', y0, y1, y2, y3⟩ := purses_of HX4.out k hlt
      replace x0 : wr.cell? ⟨b, o + k * 4, none⟩ = some _ := bkeep hW (c_alloc (by omega) x0) (by omega)
      replace x1 : wr.cell? ⟨b, o + k * 4 + 1, none⟩ = some _ := bkeep hW (c_alloc (by omega) x1) (by omega)
      replace x2 : wr.cell? ⟨b, o + k * 4 + 2, none⟩ = some _ := bkeep hW (c_alloc (by omega) x2) (by omega)
      replace x3 : wr.cell? ⟨b, o + k * 4 + 3, none⟩ = some _ := bkeep hW (c_alloc (by omega) x3) (by omega)
      replace y0 : wr.cell? ⟨b', o' + k * 4, none⟩ = some _ := bkeep hW (c_alloc (by omega) y0) (by omega)
      replace y1 : wr.cell? ⟨b', o' + k * 4 + 1, none⟩ = some _ := bkeep hW (c_alloc (by omega) y1) (by omega)
      replace y2 : wr.cell? ⟨b', o' + k * 4 + 2, none⟩ = some _ := bkeep hW (c_alloc (by omega) y2) (by omega)
      replace y3 : wr.cell? ⟨b', o' + k * 4 + 3, none⟩ = some _ := bkeep hW (c_alloc (by omega) y3) (by omega)
      go_wp2_with fail
      go_quiet (fail)
      go_wp2_with fail
      go_roundw
      case rel => exact ⟨k + 1, by omega, by go_num, by ((repeat (first | (with_reducible exact Below.refl _ _) | (with_reducible assumption) | ((with_reducible refine b_set ?_ ?_); · (first | omega | (simp; done) | (simp; omega))) | ((with_reducible refine b_alloc ?_ ?_); · (first | omega | (simp; done) | (simp; omega))) | (with_reducible refine Below.drew ?_) | (with_reducible refine b_drewN ?_) | ((with_reducible refine b_call (by assumption) ?_ ?_); · (first | omega | (simp; done) | (simp; omega))))); done)⟩
      case measure => simp [intOf]; omega
    · have c0 : wr.heap.size ≥ w3.heap.size + 1 := by omega
      have k10 : wr.cell? ⟨w2.heap.size, 0, none⟩ = some (.int .i64 0) := bkeep hW (c_alloc (by omega) k0) (by omega)
      have k11 : wr.cell? ⟨w2.heap.size, 1, none⟩ = some (.int .i64 0) := bkeep hW (c_alloc (by omega) k1) (by omega)
      have k12 : wr.cell? ⟨w2.heap.size, 2, none⟩ = some (.int .i64 0) := bkeep hW (c_alloc (by omega) k2) (by omega)
      have k13 : wr.cell? ⟨w2.heap.size, 3, none⟩ = some (.int .i64 0) := bkeep hW (c_alloc (by omega) k3) (by omega)
      have k14 : wr.cell? ⟨w3.heap.size, 0, none⟩ = some (.int .i64 0) := bkeep hW (c_new rfl (by simp)) (by omega)
      have k15 : wr.cell? ⟨w3.heap.size, 1, none⟩ = some (.int .i64 0) := bkeep hW (c_new rfl (by simp)) (by omega)
      have k16 : wr.cell? ⟨w3.heap.size, 2, none⟩ = some (.int .i64 0) := bkeep hW (c_new rfl (by simp)) (by omega)
      have k17 : wr.cell? ⟨w3.heap.size, 3, none⟩ = some (.int .i64 0) := bkeep hW (c_new rfl (by simp)) (by omega)
      go_wp2_with (go_at_call 19; refine (purseKnown _).mono ?_; rintro z w4 ⟨rfl, hb4⟩)
      go_ret
      have e1 : Below w.heap.size w wr := by ((repeat (first | (with_reducible exact Below.refl _ _) | (with_reducible assumption) | ((with_reducible refine b_set ?_ ?_); · (first | omega | (simp; done) | (simp; omega))) | ((with_reducible refine b_alloc ?_ ?_); · (first | omega | (simp; done) | (simp; omega))) | (with_reducible refine Below.drew ?_) | (with_reducible refine b_drewN ?_) | ((with_reducible refine b_call (by assumption) ?_ ?_); · (first | omega | (simp; done) | (simp; omega))))); done)
      exact ⟨rfl, e1.trans (hb4.mono e1.size)⟩

set_option maxHeartbeats 2000000 in
theorem walkAdds_1 (A : Option Addr) (c : Nat) (xs : List Q) (w : World) (hc : xs.length ≤ c) (hm : c ≤ maxLen) (hx : Cells w w.heap.size A xs.length c 4 (flatQ xs)) (s0 s1 s2 s3 : Int) (hl : xs.length ≤ 200) (ha : addTo (0, 0, 0, 0) xs = some (s0, s1, s2, s3)) :
    Calls Try.prog 4 #[.slice A xs.length c] w fun z w' => z = .returned (.bool true) ∧ Below w.heap.size w w' := by
  obtain ⟨i0, hi, hz0, hz1, hz2⟩ := info_parts Try.infoItems
  have HA := Lib.hid ha
  have HX := Lib.hid hx
  have HX1 := Lib.hid (cells_keep (w1 := w.alloc (.cells #[] 23)) (B' := w.heap.size) hx ((Below.refl _ _).alloc (Nat.le_refl _) _) (Nat.le_refl _))
  clear hx ha
  have hl2 : decide ((200 : Int) < (xs.length : Int)) = false := by simp; omega
  go_enter Try.func4, Try.ntmps4
  go_wp2_with (at_builtin; go_must (refine wpList_append_row rfl (.tmp 12) (.tmp 13) 29 rfl w.heap.size 23 i0 (.agg #[.int .i64 0, .int .i64 0, .int .i64 0, .int .i64 0]) 4 32 Try.underlying29 hi hz0 hz1 hz2 rfl (by decide) _ 0 [] rfl (World.ownsRow_lit w #[] 0 (Nat.le_refl _) (by decide) rfl) w.heap.size A xs.length c (flatQ xs) rfl HX1.out (flatQ_one _) (by unfold maxLen; omega) (by omega) (by (first | omega | (simp; done) | (simp; omega))) ?_); intro v1 w1 hown hb)
  simp only [Nat.zero_add, List.nil_append] at hown
  obtain ⟨A', cp, rfl, hc1, hm1, hx1⟩ := owns_cells hown
  have hB : Below w.heap.size w w1 := ((Below.refl w.heap.size w).alloc (Nat.le_refl _) _).trans hb
  have hs1 := hB.size
  have HX2 := Lib.hid hx1
  clear hown hb hx1
  refine (purseAdd A' cp xs _ (by omega) (purses_of HX2.out)).mono ?_
  rintro z w2 ⟨hz, hb2⟩
  obtain rfl : z = .returned (.tuple #[.agg #[.int .i64 s0, .int .i64 s1, .int .i64 s2, .int .i64 s3], .bool true]) := by rw [hz, HA.out]; rfl
  clear hz
  have hB2 : Below w.heap.size w w2 := hB.trans (hb2.mono hs1)
  have hs2 := hb2.size
  have HX3 := Lib.hid (cells_keep HX2.out hb2 (Nat.le_refl _))
  clear hb2 HX2
  go_wp2_with fail
  refine (refAdd A c xs _ (by omega) (purses_of (cells_keep HX.out (Below.trans hB2 ((Below.refl _ _).alloc (by omega) _)) (by simp; omega)))).mono ?_
  rintro z w3 ⟨hz, hb3⟩
  have hs3 := hb3.size; (try simp at hs3)
  obtain rfl : z = .returned (.tuple #[.agg #[.int .i64 s0, .int .i64 s1, .int .i64 s2, .int .i64 s3], .bool true]) := by rw [hz, HA.out]; rfl
  clear hz
  have HX4 := Lib.hid (cells_keep (w1 := w3) (B' := w2.heap.size) HX3.out (by ((repeat (first | (with_reducible exact Below.refl _ _) | (with_reducible assumption) | ((with_reducible refine b_set ?_ ?_); · (first | omega | (simp; done) | (simp; omega))) | ((with_reducible refine b_alloc ?_ ?_); · (first | omega | (simp; done) | (simp; omega))) | (with_reducible refine Below.drew ?_) | (with_reducible refine b_drewN ?_) | ((with_reducible refine b_call (by assumption) ?_ ?_); · (first | omega | (simp; done) | (simp; omega))))); done)) hs2)
  have k0 : w3.cell? ⟨w2.heap.size, 0, none⟩ = some (.int .i64 s0) := by ((repeat (first | (with_reducible assumption) | ((with_reducible refine c_set_same ?_); ((repeat (first | (with_reducible exact h_of (by assumption)) | (with_reducible assumption) | (with_reducible refine h_set ?_) | ((with_reducible refine h_alloc ?_ ?_); · (first | omega | (simp; done) | (simp; omega))) | ((with_reducible refine h_new ?_ ?_) <;> (first | omega | (simp; done) | (simp; omega))) | (with_reducible refine h_drew ?_) | (with_reducible refine h_drewN ?_) | ((with_reducible refine h_keep (by assumption) ?_ ?_); · (first | omega | (simp; done) | (simp; omega))))); done)) | ((with_reducible refine c_set_other ?_ ?_); · (first | omega | (simp; done) | (simp; omega))) | ((with_reducible refine c_alloc ?_ ?_); · (first | omega | (simp; done) | (simp; omega))) | ((with_reducible refine c_new ?_ ?_) <;> (first | omega | (simp; done) | (simp; omega))) | (with_reducible refine c_drew ?_) | (with_reducible refine c_drewN ?_) | ((with_reducible refine c_keep (by assumption) ?_ ?_); · (first | omega | (simp; done) | (simp; omega))))); done)
  have k1 : w3.cell? ⟨w2.heap.size, 1, none⟩ = some (.int .i64 s1) := by ((repeat (first | (with_reducible assumption) | ((with_reducible refine c_set_same ?_); ((repeat (first | (with_reducible exact h_of (by assumption)) | (with_reducible assumption) | (with_reducible refine h_set ?_) | ((with_reducible refine h_alloc ?_ ?_); · (first | omega | (simp; done) | (simp; omega))) | ((with_reducible refine h_new ?_ ?_) <;> (first | omega | (simp; done) | (simp; omega))) | (with_reducible refine h_drew ?_) | (with_reducible refine h_drewN ?_) | ((with_reducible refine h_keep (by assumption) ?_ ?_); · (first | omega | (simp; done) | (simp; omega))))); done)) | ((with_reducible refine c_set_other ?_ ?_); · (first | omega | (simp; done) | (simp; omega))) | ((with_reducible refine c_alloc ?_ ?_); · (first | omega | (simp; done) | (simp; omega))) | ((with_reducible refine c_new ?_ ?_) <;> (first | omega | (simp; done) | (simp; omega))) | (with_reducible refine c_drew ?_) | (with_reducible refine c_drewN ?_) | ((with_reducible refine c_keep (by assumption) ?_ ?_); · (first | omega | (simp; done) | (simp; omega))))); done)
  have k2 : w3.cell? ⟨w2.heap.size, 2, none⟩ = some (.int .i64 s2) := by ((repeat (first | (with_reducible assumption) | ((with_reducible refine c_set_same ?_); ((repeat (first | (with_reducible exact h_of (by assumption)) | (with_reducible assumption) | (with_reducible refine h_set ?_) | ((with_reducible refine h_alloc ?_ ?_); · (first | omega | (simp; done) | (simp; omega))) | ((with_reducible refine h_new ?_ ?_) <;> (first | omega | (simp; done) | (simp; omega))) | (with_reducible refine h_drew ?_) | (with_reducible refine h_drewN ?_) | ((with_reducible refine h_keep (by assumption) ?_ ?_); · (first | omega | (simp; done) | (simp; omega))))); done)) | ((with_reducible refine c_set_other ?_ ?_); · (first | omega | (simp; done) | (simp; omega))) | ((with_reducible refine c_alloc ?_ ?_); · (first | omega | (simp; done) | (simp; omega))) | ((with_reducible refine c_new ?_ ?_) <;> (first | omega | (simp; done) | (simp; omega))) | (with_reducible refine c_drew ?_) | (with_reducible refine c_drewN ?_) | ((with_reducible refine c_keep (by assumption) ?_ ?_); · (first | omega | (simp; done) | (simp; omega))))); done)
  have k3 : w3.cell? ⟨w2.heap.size, 3, none⟩ = some (.int .i64 s3) := by ((repeat (first | (with_reducible assumption) | ((with_reducible refine c_set_same ?_); ((repeat (first | (with_reducible exact h_of (by assumption)) | (with_reducible assumption) | (with_reducible refine h_set ?_) | ((with_reducible refine h_alloc ?_ ?_); · (first | omega | (simp; done) | (simp; omega))) | ((with_reducible refine h_new ?_ ?_) <;> (first | omega | (simp; done) | (simp; omega))) | (with_reducible refine h_drew ?_) | (with_reducible refine h_drewN ?_) | ((with_reducible refine h_keep (by assumption) ?_ ?_); · (first | omega | (simp; done) | (simp; omega))))); done)) | ((with_reducible refine c_set_other ?_ ?_); · (first | omega | (simp; done) | (simp; omega))) | ((with_reducible refine c_alloc ?_ ?_); · (first | omega | (simp; done) | (simp; omega))) | ((with_reducible refine c_new ?_ ?_) <;> (first | omega | (simp; done) | (simp; omega))) | (with_reducible refine c_drew ?_) | (with_reducible refine c_drewN ?_) | ((with_reducible refine c_keep (by assumption) ?_ ?_); · (first | omega | (simp; done) | (simp; omega))))); done)
  have hB3 : Below w.heap.size w w3 := by ((repeat (first | (with_reducible exact Below.refl _ _) | (with_reducible assumption) | ((with_reducible refine b_set ?_ ?_); · (first | omega | (simp; done) | (simp; omega))) | ((with_reducible refine b_alloc ?_ ?_); · (first | omega | (simp; done) | (simp; omega))) | (with_reducible refine Below.drew ?_) | (with_reducible refine b_drewN ?_) | ((with_reducible refine b_call (by assumption) ?_ ?_); · (first | omega | (simp; done) | (simp; omega))))); done)
  clear HX3 HX1 hB hB2 hb3
  go_wp2_with fail
  go_loopw [8] (fun i wr => ∃ k : Nat, k ≤ xs.length ∧ i = .int .i64 k ∧ Below (w3.heap.size + 1) (w3.alloc (.cells #[.int .i64 s0, .int .i64 s1, .int .i64 s2, .int .i64 s3] 23)) wr) (fun i _ => xs.length - (intOf i).toNat)
  case atStart => exact ⟨0, by omega, rfl, Below.refl _ _⟩
  case round =>
    obtain ⟨k, hk, rfl, hW⟩ := hrel
    have hsW := hW.size; (try simp at hsW)
    by_cases hlt : k < xs.length
    · obtain ⟨b, o, rfl, hb, x0, x1, x2, x3⟩ := purses_of (cells_keep HX.out hB3 (Nat.le_refl _)) k hlt
      obtain ⟨b', o', rfl, hb', y0, y1, y2, y3⟩ := purses_of HX4.out k hlt
      replace x0 : wr.cell? ⟨b, o + k * 4, none⟩ = some _ := bkeep hW (c_alloc (by omega) x0) (by omega)
      replace x1 : wr.cell? ⟨b, o + k * 4 + 1, none⟩ = some _ := bkeep hW (c_alloc (by omega) x1) (by omega)
      replace x2 : wr.cell? ⟨b, o + k * 4 + 2, none⟩ = some _ := bkeep hW (c_alloc (by omega) x2) (by omega)
      replace x3 : wr.cell? ⟨b, o + k * 4 + 3, none⟩ = some _ := bkeep hW (c_alloc (by omega) x3) (by omega)
      replace y0 : wr.cell? ⟨b', o' + k * 4, none⟩ = some _ := bkeep hW (c_alloc (by omega) y0) (by omega)
      replace y1 : wr.cell? ⟨b', o' + k * 4 + 1, none⟩ = some _ := bkeep hW (c_alloc (by omega) y1) (by omega)
      replace y2 : wr.cell? ⟨b', o' + k * 4 + 2, none⟩ = some _ := bkeep hW (c_alloc (by omega) y2) (by omega)
      replace y3 : wr.cell? ⟨b', o' + k * 4 + 3, none⟩ = some _ := bkeep hW (c_alloc (by omega) y3) (by omega)
      go_wp2_with fail
      go_quiet (fail)
      go_wp2_with fail
      go_roundw
      case rel => exact ⟨k + 1, by omega, by go_num, by ((repeat (first | (with_reducible exact Below.refl _ _) | (with_reducible assumption) | ((with_reducible refine b_set ?_ ?_); · (first | omega | (simp; done) | (simp; omega))) | ((with_reducible refine b_alloc ?_ ?_); · (first | omega | (simp; done) | (simp; omega))) | (with_reducible refine Below.drew ?_) | (with_reducible refine b_drewN ?_) | ((with_reducible refine b_call (by assumption) ?_ ?_); · (first | omega | (simp; done) | (simp; omega))))); done)⟩
      case measure => simp [intOf]; omega
    · have c0 : wr.heap.size ≥ w3.heap.size + 1 := by omega
      have k10 : wr.cell? ⟨w2.heap.size, 0, none⟩ = some (.int .i64 s0) := bkeep hW (c_alloc (by omega) k0) (by omega)
      have k11 : wr.cell? ⟨w2.heap.size, 1, none⟩ = some (.int .i64 s1) := bkeep hW (c_alloc (by omega) k1) (by omega)
      have k12 : wr.cell? ⟨w2.heap.size, 2, none⟩ = some (.int .i64 s2) := bkeep hW (c_alloc (by omega) k2) (by omega)
      have k13 : wr.cell? ⟨w2.heap.size, 3, none⟩ = some (.int .i64 s3) := bkeep hW (c_alloc (by omega) k3) (by omega)
      have k14 : wr.cell? ⟨w3.heap.size, 0, none⟩ = some (.int .i64 s0) := bkeep hW (c_new rfl (by simp)) (by omega)
      have k15 : wr.cell? ⟨w3.heap.size, 1, none⟩ = some (.int .i64 s1) := bkeep hW (c_new rfl (by simp)) (by omega)
      have k16 : wr.cell? ⟨w3.heap.size, 2, none⟩ = some (.int .i64 s2) := bkeep hW (c_new rfl (by simp)) (by omega)
      have k17 : wr.cell? ⟨w3.heap.size, 3, none⟩ = some (.int .i64 s3) := bkeep hW (c_new rfl (by simp)) (by omega)
      go_wp2_with (go_at_call 19; refine (purseKnown _).mono ?_; rintro z w4 ⟨rfl, hb4⟩)
      go_ret
      have e1 : Below w.heap.size w wr := by ((repeat (first | (with_reducible exact Below.refl _ _) | (with_reducible assumption) | ((with_reducible refine b_set ?_ ?_); · (first | omega | (simp; done) | (simp; omega))) | ((with_reducible refine b_alloc ?_ ?_); · (first | omega | (simp; done) | (simp; omega))) | (with_reducible refine Below.drew ?_) | (with_reducible refine b_drewN ?_) | ((with_reducible refine b_call (by assumption) ?_ ?_); · (first | omega | (simp; done) | (simp; omega))))); done)
      exact ⟨rfl, e1.trans (hb4.mono e1.size)⟩

theorem walkAdds (A : Option Addr) (c : Nat) (xs : List Q) (w : World) (hc : xs.length ≤ c) (hm : c ≤ maxLen) (hx : Cells w w.heap.size A xs.length c 4 (flatQ xs)) :
    Calls Try.prog 4 #[.slice A xs.length c] w fun z w' => z = .returned (.bool true) ∧ Below w.heap.size w w' := by
  by_cases hl : xs.length ≤ 200
  · cases ha : addTo (0, 0, 0, 0) xs with
    | none => exact walkAdds_0 A c xs w hc hm hx hl ha
    | some s => obtain ⟨s0, s1, s2, s3⟩ := s; exact walkAdds_1 A c xs w hc hm hx s0 s1 s2 s3 hl ha
  · have hl2 : (200 : Int) < (xs.length : Int) := by omega
    unfold maxLen at hm
    go_enter Try.func4, Try.ntmps4
    go_wp2_with fail
    go_ret
    exact ⟨rfl, Below.refl _ _⟩

end Go.Proofs.Ytbeebcocedmjkaa
