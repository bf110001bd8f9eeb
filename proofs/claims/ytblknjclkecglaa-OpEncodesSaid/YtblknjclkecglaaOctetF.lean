/- What the document's own Reader's Bad, Whole and Raw (of one byte) do: it lies as octet's own does. -/
import Derived.Test.YtblknjclkecglaaOctetR
import Derived.Deep.Heap
namespace Go.Proofs.Ytblknjclkecglaa
open Go.RowKit
set_option linter.unusedVariables false
set_option linter.unusedSimpArgs false

theorem rfBad (b : Nat) (rest : List Nat) (bad : Bool) (w : World) (hr : Rd w b rest bad) :
    Calls Try.prog 54 #[.pointer (some ⟨b, 0, none⟩)] w fun e w' => e = .returned (.tuple #[]) ∧ Rd w' b [] true ∧ Below b w w' := by
  obtain ⟨A, c, h0, _, _, _⟩ := hr.row
  have h1 := hr.flag
  have f := hr.free
  have f0 := f 0
  have f1 := f 1
  have hlow := hr.low
  go_enter Try.func54, Try.ntmps54
  go_wp2_with fail
  refine bodyPost_end (v := .tuple #[]) (by simp [results, Try.results54, go_sem]) rfl ⟨rfl, ⟨⟨none, 0, (by simp only [List.length_nil]; ((repeat (first | (with_reducible assumption) | ((with_reducible refine c_set_same ?_); ((repeat (first | (with_reducible exact h_of (by assumption)) | (with_reducible assumption) | (with_reducible refine h_set ?_) | ((with_reducible refine h_alloc ?_ ?_); · (first | omega | (simp; done) | (simp; omega))) | ((with_reducible refine h_new ?_ ?_) <;> (first | omega | (simp; done) | (simp; omega))) | (with_reducible refine h_drew ?_) | (with_reducible refine h_drewN ?_) | ((with_reducible refine h_keep (by assumption) ?_ ?_); · (first | omega | (simp; done) | (simp; omega))))); done)) | ((with_reducible refine c_set_other ?_ ?_); · (first | omega | (simp; done) | (simp; omega))) | ((with_reducible refine c_alloc ?_ ?_); · (first | omega | (simp; done) | (simp; omega))) | ((with_reducible refine c_new ?_ ?_) <;> (first | omega | (simp; done) | (simp; omega))) | (with_reducible refine c_drew ?_) | (with_reducible refine c_drewN ?_) | ((with_reducible refine c_keep (by assumption) ?_ ?_); · (first | omega | (simp; done) | (simp; omega))))); done)), Nat.le_refl _, by unfold maxLen; omega, ⟨rfl, fun _ => ⟨rfl, rfl⟩, fun j u hu => by simp [flatU] at hu⟩⟩, by ((repeat (first | (with_reducible assumption) | ((with_reducible refine c_set_same ?_); ((repeat (first | (with_reducible exact h_of (by assumption)) | (with_reducible assumption) | (with_reducible refine h_set ?_) | ((with_reducible refine h_alloc ?_ ?_); · (first | omega | (simp; done) | (simp; omega))) | ((with_reducible refine h_new ?_ ?_) <;> (first | omega | (simp; done) | (simp; omega))) | (with_reducible refine h_drew ?_) | (with_reducible refine h_drewN ?_) | ((with_reducible refine h_keep (by assumption) ?_ ?_); · (first | omega | (simp; done) | (simp; omega))))); done)) | ((with_reducible refine c_set_other ?_ ?_); · (first | omega | (simp; done) | (simp; omega))) | ((with_reducible refine c_alloc ?_ ?_); · (first | omega | (simp; done) | (simp; omega))) | ((with_reducible refine c_new ?_ ?_) <;> (first | omega | (simp; done) | (simp; omega))) | (with_reducible refine c_drew ?_) | (with_reducible refine c_drewN ?_) | ((with_reducible refine c_keep (by assumption) ?_ ?_); · (first | omega | (simp; done) | (simp; omega))))); done), by intro j; have fj := f j; ((repeat (first | (with_reducible assumption) | (with_reducible refine f_set ?_) | ((with_reducible refine f_alloc ?_ ?_); · (first | omega | (simp; done) | (simp; omega))) | ((with_reducible refine f_new ?_); (first | omega | (simp; done) | (simp; omega)); done) | (with_reducible refine f_drew ?_) | (with_reducible refine f_drewN ?_) | ((with_reducible refine f_keep (by assumption) ?_ ?_); · (first | omega | (simp; done) | (simp; omega))))); done), by simp; omega⟩, by ((repeat (first | (with_reducible exact Below.refl _ _) | (with_reducible assumption) | ((with_reducible refine b_set ?_ ?_); · (first | omega | (simp; done) | (simp; omega))) | ((with_reducible refine b_alloc ?_ ?_); · (first | omega | (simp; done) | (simp; omega))) | (with_reducible refine Below.drew ?_) | (with_reducible refine b_drewN ?_) | ((with_reducible refine b_call (by assumption) ?_ ?_); · (first | omega | (simp; done) | (simp; omega))))); done)⟩

theorem rfWhole (b : Nat) (rest : List Nat) (bad : Bool) (w : World) (hr : Rd w b rest bad) (hl : rest.length ≤ 1000000) :
    Calls Try.prog 35 #[.pointer (some ⟨b, 0, none⟩)] w fun e w' => e = .returned (.bool (!bad && rest.isEmpty)) ∧ w = w' := by
  obtain ⟨A, c, h0, _, _, _⟩ := hr.row
  have h1 := hr.flag
  clear hr
  cases bad
  · cases rest with
    | nil =>
      simp only [List.length_nil] at h0
      go_enter Try.func35, Try.ntmps35
      go_wp2_with fail
      go_ret
      exact ⟨rfl, rfl⟩
    | cons x r =>
      simp only [List.length_cons] at h0
      have hne : (((r.length + 1 : Nat) : Int) == 0) = false := by rw [beq_eq_false_iff_ne]; omega
      have hne2 : (((r.length : Int) + 1) == 0) = false := by rw [beq_eq_false_iff_ne]; omega
      go_enter Try.func35, Try.ntmps35
      go_wp2_with fail
      go_ret
      exact ⟨rfl, rfl⟩
  · go_enter Try.func35, Try.ntmps35
    go_wp2_with fail
    go_ret
    exact ⟨rfl, rfl⟩

theorem rfRaw0 (b : Nat) (bad : Bool) (w : World) (hr : Rd w b [] bad) :
    Calls Try.prog 53 #[.pointer (some ⟨b, 0, none⟩), .int .i64 1] w fun e w' => e = .returned (.slice none 0 0) ∧ Rd w' b [] true ∧ Below b w w' := by
  obtain ⟨A, c, h0, _, _, _⟩ := hr.row
  simp only [List.length_nil] at h0
  have HR := Lib.hid hr
  clear hr
  go_enter Try.func53, Try.ntmps53
  go_wp2_with fail
  refine (rfBad b [] bad _ HR.out).mono ?_
  rintro e w1 ⟨rfl, hw1, hb1⟩
  have h1 := hw1.flag
  go_wp2_with fail
  go_ret
  exact ⟨rfl, hw1, hb1⟩

set_option maxHeartbeats 1000000 in
set_option maxRecDepth 10000 in
theorem rfRaw1 (b x : Nat) (r : List Nat) (w : World) (hl : r.length ≤ 1000000) (hr : Rd w b (x :: r) false) :
    Calls Try.prog 53 #[.pointer (some ⟨b, 0, none⟩), .int .i64 1] w fun e w' => ∃ v', e = .returned v' ∧ w'.ownsRow w.heap.size 5 1 v' 1 (flatU [x]) ∧ Rd w' b r false ∧ Below b w w' := by
  obtain ⟨i0, hi, hz0, hz1, hz2⟩ := info_parts Try.infoByte
  obtain ⟨A, c, h0, hc, hm, hx⟩ := hr.row
  have h1 := hr.flag
  have f := hr.free
  have f0 := f 0
  have f1 := f 1
  have hlow := hr.low
  obtain ⟨b1, o1, rfl, hb1, hx0⟩ := hx.2.2 0 (.int .u8 x) rfl
  simp only [List.length_cons] at h0 hc
  have HXx : Hid (Cells (w.alloc (.cells #[] 5)) w.heap.size (some ⟨b1, o1, none⟩) 1 c 1 (flatU [x])) := by
    refine Lib.hid ⟨rfl, (fun e => by cases e), fun j u hu => ⟨b1, o1, rfl, by omega, ?_⟩⟩
    match j, hu with
    | 0, hu => exact c_alloc (by omega) (hx0.trans hu)
  have HX := Lib.hid hx
  clear hx hx0 hr
  have hd : decide ((r.length : Int) + 1 < 1) = false := by simp; omega
  have k1 : (1 : Int) ≤ (c : Int) := by omega
  have k2 : (1 : Int) ≤ (r.length : Int) + 1 := by omega
  by_cases hc1 : c = 1
  · subst hc1
    obtain rfl : r = [] := List.eq_nil_of_length_eq_zero (by omega)
    simp only [List.length_nil] at *
    go_enter Try.func53, Try.ntmps53
    go_wp2_with (at_builtin; go_must (refine wpList_append_row rfl (.tmp 23) (.tmp 29) 27 rfl w.heap.size 5 i0 (.int .u8 0) 1 1 Try.underlying27 hi hz0 hz1 hz2 rfl (by decide) _ 0 [] rfl (World.ownsRow_lit w #[] 0 (Nat.le_refl _) (by decide) rfl) w.heap.size (some ⟨b1, o1, none⟩) 1 1 (flatU [x]) rfl HXx.out (flatU_one _) (by unfold maxLen; omega) (by omega) (by (first | omega | (simp; done) | (simp; omega))) ?_); intro v5 w5 hown5 hb5; have c5 := bkeep hb5 (c_alloc hlow h0) hlow; have g5 := bfree hb5 (f_alloc hlow f0) hlow; have c6 := bkeep hb5 (c_alloc hlow h1) hlow; have hs5 := hb5.size; (try simp at hs5))
    have hB5 : Below w.heap.size w w5 := ((Below.refl w.heap.size w).alloc (Nat.le_refl _) _).trans hb5
    have h6 : w5.ownsRow w.heap.size 5 1 v5 1 (flatU [x]) := by simpa using hown5
    go_ret
    refine ⟨_, rfl, row_set h6 hlow _, ⟨⟨some ⟨b1, o1, none⟩, 0, c_set_same (h_of c5), by (first | omega | (simp; done) | (simp; omega)), by unfold maxLen at *; omega, ?_⟩, c_set_other (Or.inr (by decide)) c6, fun j => f_set (bfree hb5 (f_alloc hlow (f j)) hlow), by simp; omega⟩, b_set (Nat.le_refl _) (hB5.mono (by omega))⟩
    exact ⟨rfl, (fun e => by cases e), fun j u hu => by simp [flatU] at hu⟩
  · have k3 : ¬ c = 1 := hc1
    go_enter Try.func53, Try.ntmps53
    go_wp2_with (at_builtin; go_must (refine wpList_append_row rfl (.tmp 23) (.tmp 29) 27 rfl w.heap.size 5 i0 (.int .u8 0) 1 1 Try.underlying27 hi hz0 hz1 hz2 rfl (by decide) _ 0 [] rfl (World.ownsRow_lit w #[] 0 (Nat.le_refl _) (by decide) rfl) w.heap.size (some ⟨b1, o1, none⟩) 1 c (flatU [x]) rfl HXx.out (flatU_one _) (by unfold maxLen; omega) (by omega) (by (first | omega | (simp; done) | (simp; omega))) ?_); intro v5 w5 hown5 hb5; have c5 := bkeep hb5 (c_alloc hlow h0) hlow; have g5 := bfree hb5 (f_alloc hlow f0) hlow; have c6 := bkeep hb5 (c_alloc hlow h1) hlow; have hs5 := hb5.size; (try simp at hs5))
    have hB5 : Below w.heap.size w w5 := ((Below.refl w.heap.size w).alloc (Nat.le_refl _) _).trans hb5
    have h6 : w5.ownsRow w.heap.size 5 1 v5 1 (flatU [x]) := by simpa using hown5
    go_ret
    refine ⟨_, rfl, row_set h6 hlow _, ⟨⟨some ⟨b1, o1 + 1, none⟩, c - 1, c_set_same (h_of c5), by (first | omega | (simp; done) | (simp; omega)), by unfold maxLen at *; omega, ?_⟩, c_set_other (Or.inr (by decide)) c6, fun j => f_set (bfree hb5 (f_alloc hlow (f j)) hlow), by simp; omega⟩, b_set (Nat.le_refl _) (hB5.mono (by omega))⟩
    refine ⟨by simp [flatU], (fun e => by cases e), fun j u hu => ?_⟩
    obtain ⟨b2, o2, e, hlt2, hcell⟩ := HX.out.2.2 (j + 1) u hu
    injection e with e; injection e with e1 e2 e3; subst e1 e2
    refine ⟨b1, o1 + 1, rfl, hlt2, c_set_other (Or.inl (by omega)) ?_⟩
    rw [show o1 + 1 + j = o1 + (j + 1) from by omega]
    exact bkeep hb5 (c_alloc (by omega) hcell) (by omega)

end Go.Proofs.Ytblknjclkecglaa
