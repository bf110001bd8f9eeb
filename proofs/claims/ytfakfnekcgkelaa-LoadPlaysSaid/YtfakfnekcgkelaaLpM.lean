/- Two tables of the same rows are one. -/
import Derived.Test.YtfakfnekcgkelaaLpJ
import Derived.Deep.DeepCutAuto
namespace Go.Proofs.Ytfakfnekcgkelaa
open Go.RowKit Go.MapKept
set_option linter.unusedVariables false
set_option linter.unusedSimpArgs false

theorem rowNe2 (w : World) (a : Int) (b : Int) (c : By) : (binOp .neq 43 (.agg #[.int .i64 a, .int .i64 b, encStr c]) (.agg #[.int .i64 a, .int .i64 b, encStr c])).run Try.prog w = .ok (.bool false) w := by
  go_simp
set_option maxHeartbeats 2000000 in
set_option maxRecDepth 10000 in
/-- two tables of the same rows are one -/
theorem rowsSame (T : List Rw) (n : Nat) (hn : n = T.length) (hn1 : n ≤ 1000) (B1 B2 : Nat) (v1 v2 : Value) (w : World) (h1 : w.ownsRow B1 43 3 v1 n (flatR T)) (h2 : w.ownsRow B2 54 3 v2 n (flatR T)) :
    Calls Try.prog 13 #[v1, v2] w fun e w' => e = .returned (.bool true) ∧ Below w.heap.size w w' := by
  obtain ⟨A1, k1, rfl, _, _, _⟩ := own_slice h1
  obtain ⟨A2, k2, rfl, _, _, _⟩ := own_slice h2
  have HR1 := Lib.hid h1
  have HR2 := Lib.hid h2
  clear h1 h2
  go_enter Try.func13, Try.ntmps13
  go_wp2_with fail
  go_loopw [5] (fun i wq => ∃ m : Nat, m ≤ n ∧ i = .int .i64 m ∧ Below w.heap.size w wq) (fun i _ => n - (intOf i).toNat)
  case atStart => exact ⟨0, Nat.zero_le _, rfl, Below.refl _ _⟩
  case round =>
    obtain ⟨m, hm, rfl, hBw⟩ := hrel
    have hBz := hBw.size
    have hR1 := row_belowL HR1.out hBw
    have hR2 := row_belowL HR2.out hBw
    by_cases hml : m < n
    · obtain ⟨ga, ka, e3, _, hga, _, _⟩ := own_form hR1 (by omega)
      obtain ⟨gb, kb, e4, _, hgb, _, _⟩ := own_form hR2 (by omega)
      simp only [Value.slice.injEq, true_and] at e3 e4
      obtain ⟨rfl, rfl⟩ := e3
      obtain ⟨rfl, rfl⟩ := e4
      obtain ⟨y0, y1, y2⟩ := flatR_at T m (by omega)
      obtain ⟨⟨ra, rb, rc⟩, hrr⟩ : ∃ r : Rw, r = T[m] := ⟨_, rfl⟩
      rw [← hrr] at y0 y1 y2
      have a0 := (hR1.cellAt (m * 3) (by omega)).trans y0
      have a1 := (hR1.cellAt (m * 3 + 1) (by omega)).trans y1
      have a2 := (hR1.cellAt (m * 3 + 2) (by omega)).trans y2
      have b0 := (hR2.cellAt (m * 3) (by omega)).trans y0
      have b1 := (hR2.cellAt (m * 3 + 1) (by omega)).trans y1
      have b2 := (hR2.cellAt (m * 3 + 2) (by omega)).trans y2
      simp only at a0 a1 a2 b0 b1 b2
      have hne := rowNe2
      have q5 : (m : Int) < (n : Int) := by omega
      have HBW := Lib.hid hBw.drew
      have HM1 : Hid (m + 1 ≤ n) := Lib.hid hml
      clear y0 y1 y2 hrr hR1 hR2 hBw hn
      go_wp2_with fail
      go_region
      go_wp2_with fail
      exact ⟨⟨m + 1, HM1.out, by go_num, HBW.out⟩, measJ HM1.out⟩
    · obtain rfl : m = n := by omega
      go_wp2_with fail
      go_ret
      exact ⟨rfl, hBw⟩
end Go.Proofs.Ytfakfnekcgkelaa
