/- book: the two orders that are known; what a nil Book has. -/
import Derived.Test.YtgppgbiebfdnlaaBookY
namespace Go.Proofs.Ytgppgbiebfdnlaa
open Go.RowKit
set_option linter.unusedVariables false
set_option linter.unusedSimpArgs false

set_option maxHeartbeats 2000000 in
set_option maxRecDepth 10000 in
theorem knownBook (w : World) : Calls Try.prog 15 #[] w fun e w' => e = .returned (.bool true) ∧ Below w.heap.size w w' := by
  go_enter Try.func15, Try.ntmps15
  go_wp2_with fail
  refine (bkNew _).mono ?_
  rintro e w1 ⟨rfl, rfl⟩
  have hb0 : Below w.heap.size w (w.alloc (.cells #[.slice none 0 0, .slice none 0 0, .slice none 0 0, .slice none 0 0, .slice none 0 0, .slice none 0 0, .slice none 0 0, .slice none 0 0, .int .i64 0] 96)) := (Below.refl _ _).alloc (Nat.le_refl _) _
  have P : Whl (w.alloc (.cells #[.slice none 0 0, .slice none 0 0, .slice none 0 0, .slice none 0 0, .slice none 0 0, .slice none 0 0, .slice none 0 0, .slice none 0 0, .int .i64 0] 96)) w.heap.size 96 #[.slice none 0 0, .slice none 0 0, .slice none 0 0, .slice none 0 0, .slice none 0 0, .slice none 0 0, .slice none 0 0, .slice none 0 0, .int .i64 0] := Whl.new rfl
  have hs0 : w.heap.size < (w.alloc (.cells #[.slice none 0 0, .slice none 0 0, .slice none 0 0, .slice none 0 0, .slice none 0 0, .slice none 0 0, .slice none 0 0, .slice none 0 0, .int .i64 0] 96)).heap.size := by simp
  generalize w.alloc (.cells #[.slice none 0 0, .slice none 0 0, .slice none 0 0, .slice none 0 0, .slice none 0 0, .slice none 0 0, .slice none 0 0, .slice none 0 0, .int .i64 0] 96) = V at *
  have hBk : Bk V w.heap.size (.slice none 0 0) 0 := by
    refine ⟨fun k h1 h2 => ?_, P.cell 5, P.cell 8, fun j => P.free j, hs0⟩
    rw [P.cell k]
    have hk : k = 0 ∨ k = 1 ∨ k = 2 ∨ k = 3 ∨ k = 4 ∨ k = 6 ∨ k = 7 := by omega
    rcases hk with rfl | rfl | rfl | rfl | rfl | rfl | rfl <;> rfl
  have HB := Lib.hid hBk
  clear hBk P
  go_wp2_with fail
  refine (place1 w.heap.size _ HB.out).mono ?_
  rintro e w2 ⟨rfl, g, cap, hg, hown, hBk2, ht2⟩
  have hsix := Lib.hid (Six.of_own hown)
  obtain ⟨A, c, hA, hcap, _, _⟩ := row_cells hown
  injection hA with hA1 hA2 hA3
  subst hA3
  have hg2 := hsix.out.low
  have HB2 := Lib.hid hBk2
  clear hown hBk2
  go_wp2_with fail
  refine (place2 w.heap.size g _ _ HB2.out hsix.out (by omega) hcap).mono ?_
  rintro e w3 ⟨t, c3, rfl, hown3, ht3⟩
  have hc : ∀ j u, ([.string ⟨#[98]⟩, .string ⟨#[97]⟩, .int .i64 2, .int .i64 1, .int .i64 1, .int .i64 2, .int .i64 5, .int .i64 7] : List Value)[j]? = some u → w3.cell? ⟨t, j, none⟩ = some u := by
    intro j u hu
    have := hown3.cells (g := t) rfl j u hu
    rw [add_none, Nat.zero_add] at this
    exact this
  have r0 := hc 0 _ rfl
  have r1 := hc 1 _ rfl
  have r2 := hc 2 _ rfl
  have r3 := hc 3 _ rfl
  have r4 := hc 4 _ rfl
  have r5 := hc 5 _ rfl
  have r6 := hc 6 _ rfl
  have r7 := hc 7 _ rfl
  clear hc
  go_wp2_with fail
  go_ret
  refine ⟨ret_bool (by simp), ?_⟩
  have b1 : Below w.heap.size w w2 := hb0.trans (ht2.below (B := w.heap.size) (by omega) (by rintro k rfl; exact Nat.le_refl _))
  exact b1.trans (ht3.below (B := w.heap.size) b1.size (by rintro k (rfl | rfl); · exact Nat.le_refl _
                                                           · omega))

end Go.Proofs.Ytgppgbiebfdnlaa
