/- book: Len, of a book with at most one order on each side; may at orders that are known. -/
import Derived.Test.YtgppgbiebfdnlaaBookS
namespace Go.Proofs.Ytgppgbiebfdnlaa
open Go.RowKit
set_option linter.unusedVariables false
set_option linter.unusedSimpArgs false

/-- a book's eight sides are slices of at most one order -/
def Few (w : World) (b : Nat) : Prop := ∀ k, k < 8 → ∃ r m c, w.cell? ⟨b, k, none⟩ = some (.slice r m c) ∧ m ≤ 1
theorem Few.below {w w' : World} {b B : Nat} (h : Few w b) (hb : Below B w w') (hB : b < B) : Few w' b := fun k hk => by
  obtain ⟨r, m, c, h1, h2⟩ := h k hk
  exact ⟨r, m, c, bkeep hb h1 hB, h2⟩
theorem sv_get (b k : Nat) (h : k < 8) : ∃ j, j < 8 ∧ (sv b)[k]? = some (pt b j) := by
  have hk : k = 0 ∨ k = 1 ∨ k = 2 ∨ k = 3 ∨ k = 4 ∨ k = 5 ∨ k = 6 ∨ k = 7 := by omega
  rcases hk with rfl | rfl | rfl | rfl | rfl | rfl | rfl | rfl
  · exact ⟨0, by decide, rfl⟩
  · exact ⟨4, by decide, rfl⟩
  · exact ⟨1, by decide, rfl⟩
  · exact ⟨5, by decide, rfl⟩
  · exact ⟨2, by decide, rfl⟩
  · exact ⟨6, by decide, rfl⟩
  · exact ⟨3, by decide, rfl⟩
  · exact ⟨7, by decide, rfl⟩

set_option maxHeartbeats 2000000 in
set_option maxRecDepth 10000 in
theorem bkLen (b : Nat) (w : World) (hf : Few w b) (hl : b < w.heap.size) :
    Calls Try.prog 14 #[.pointer (some ⟨b, 0, none⟩)] w fun e w' => ∃ n : Nat, n ≤ 8 ∧ e = .returned (.int .i64 n) ∧ Below w.heap.size w w' := by
  go_enter Try.func14, Try.ntmps14
  go_wp2_with fail
  refine (bkSides b _).mono ?_
  rintro e w1 ⟨g, cap, rfl, hown, hb1⟩
  obtain ⟨A, c, hA, hc1, hc2, hx⟩ := row_cells hown
  injection hA with hA1 hA2 hA3
  subst hA1 hA3
  have hglt := (hown.lt g rfl).2
  have HX := Lib.hid hx
  have HF := Lib.hid (hf.below hb1 hl)
  have hs1 := hb1.size
  clear hx hown hf
  go_wp2_with fail
  go_loopw [3, 11] (fun s i wr => ∃ k n : Nat, k ≤ 8 ∧ n ≤ k ∧ i = .int .i64 k ∧ s = .int .i64 n ∧ wr = w1) (fun _ i _ => 8 - (intOf i).toNat)
  case atStart => exact ⟨0, 0, by omega, by omega, rfl, rfl, rfl⟩
  case round =>
    obtain ⟨k, n, hk, hn, rfl, rfl, rfl⟩ := hrel
    by_cases hlt : k < 8
    · obtain ⟨j, hj, hsv⟩ := sv_get b k hlt
      obtain ⟨g', o', e1, _, h1⟩ := HX.out.2.2 k _ hsv
      injection e1 with e1; injection e1 with e1 e2 e3
      subst e1 e2
      rw [Nat.zero_add] at h1
      unfold pt at h1
      obtain ⟨r, m, c', h2, h3⟩ := HF.out j hj
      go_wp2_with fail
      go_roundw
      case rel => exact ⟨k + 1, n + m, by omega, by omega, by go_num, by go_num, trivial⟩
      case measure => simp [intOf]; omega
    · have : k = 8 := by omega
      subst this
      go_wp2_with fail
      go_ret
      exact ⟨n, hn, rfl, hb1⟩

end Go.Proofs.Ytgppgbiebfdnlaa
