/- The directory: slices.Delete of one zone. -/
import Derived.Test.YtbohpjinkdffhaaDrK
namespace Go.Proofs.Ytbohpjinkdffhaa
open Go.RowKit
set_option linter.unusedVariables false
set_option linter.unusedSimpArgs false

set_option maxHeartbeats 8000000 in
set_option maxRecDepth 100000 in
theorem drDelete (B g cap k j : Nat) (xs : List Value) (w : World) (h : w.ownsRow B 39 9 (.slice (some ⟨g, 0, none⟩) (k + 1) cap) (k + 1) xs) (hj : j ≤ k) (hk : k ≤ 1000) (h1x : ∀ u ∈ xs, u.oneCell' = true) :
    Calls Try.prog 101 #[.slice (some ⟨g, 0, none⟩) (k + 1) cap, .int .i64 j, .int .i64 ((j : Int) + 1)] w fun e w' => e = .returned (.slice (some ⟨g, 0, none⟩) k cap) ∧ w'.ownsRow B 39 9 (.slice (some ⟨g, 0, none⟩) k cap) k (xs.take (j * 9) ++ xs.drop ((j + 1) * 9)) ∧ Touch (fun q => q = g) w w' := by
  obtain ⟨i0, hi0, hz0, hz1, hz2⟩ := info_parts Try.infoZone
  have hxl : xs.length = (k + 1) * 9 := h.1
  obtain ⟨C, hR, hCx, hnc, hcm, hB⟩ := RowB.of_own h
  have hdl : (xs.drop ((j + 1) * 9)).length = (k - j) * 9 := by rw [List.length_drop, hxl]; omega
  obtain ⟨A, hA, hsrc⟩ : ∃ A : Addr, (if cap = j + 1 then some (⟨g, 0, none⟩ : Addr) else some ⟨g, (j + 1) * 9, none⟩) = some A ∧ (∀ t u, (xs.drop ((j + 1) * 9))[t]? = some u → w.drew.cell? (A.add t) = some u) := by
    by_cases e : cap = j + 1
    · refine ⟨⟨g, 0, none⟩, by simp [e], fun t u hu => ?_⟩
      have := (List.getElem?_eq_some_iff.1 hu).1
      omega
    · refine ⟨⟨g, (j + 1) * 9, none⟩, by simp [e], fun t u hu => ?_⟩
      rw [add_none, hR.drew.cell]
      rw [List.getElem?_drop] at hu
      rw [← hu, ← hCx, List.getElem?_take, if_pos (by have := (List.getElem?_eq_some_iff.1 hu).1; omega)]
  have hra : ∀ ty dc, (Builtin.append_ #[31, 31] ty #[.slice (some ⟨g, 0, none⟩) j cap, .slice (some A) (k - j) dc]).run Try.prog w.drew = .ok (.slice (some ⟨g, 0, none⟩) k cap) (w.drew.setCells g (j * 9) (xs.drop ((j + 1) * 9))) := fun ty dc => by
    have := run_append_room_cells (P := Try.prog) w.drew 31 ty 39 i0 Try.underlying31 hi0 g 0 j cap A (k - j) dc (xs.drop ((j + 1) * 9)) (by rw [hz1]; exact hdl) hsrc (fun u hu => h1x u (List.mem_of_mem_drop hu)) (by omega) (fun t ht => by rw [hz1, Nat.zero_add]; exact hR.drew.isSome (by rw [hdl] at ht; omega)) (fun t _ => hR.drew.free _)
    rw [hz1, Nat.zero_add, show j + (k - j) = k by omega] at this
    exact this
  have hR1 := hR.drew.patch (j * 9) (xs.drop ((j + 1) * 9)) (by rw [hdl]; omega)
  obtain ⟨W1, hW1⟩ : ∃ W1, W1 = w.drew.setCells g (j * 9) (xs.drop ((j + 1) * 9)) := ⟨_, rfl⟩
  rw [← hW1] at hra hR1
  have hcl : ∀ ty dc, (Builtin.clear_ #[31] ty #[.slice (some ⟨g, k * 9, none⟩) 1 dc]).run Try.prog W1 = .ok (.tuple #[]) (W1.setCells g (k * 9) z0V) := fun ty dc =>
    run_clearN W1 31 39 ty _ Try.underlying31 Try.zeroValue39 (by decide) g (k * 9) 1 dc (by decide) z0V (by kernel_rfl) (by decide) (fun t ht => hR1.isSome (by have : z0V.length = 9 := rfl; omega)) (fun t _ => hR1.free _)
  have hR2 := hR1.patch (k * 9) z0V (by have : z0V.length = 9 := rfl; omega)
  have hown := hR2.own (B := B) (n := k) hB (by omega) hcm
  have hp := patch_out (C := C) (zs := z0V) (j := j) (n := k + 1) (S := 9) (by omega) (by rw [hR.len]; omega) rfl
  rw [hCx, Nat.add_sub_cancel] at hp
  rw [hp] at hown
  have HT : Hid (Touch (fun q => q = g) w (W1.setCells g (k * 9) z0V)) := Lib.hid (by
    rw [hW1]
    exact ((Touch.of_drew (fun q => q = g) w).trans (setCells_touch g _ _ _) (fun _ _ h => h) : Touch (fun q => q = g) w _) |>.trans (setCells_touch g _ _ _) (fun _ _ h => h))
  have HOWN := Lib.hid hown
  have hb0 : ¬ ((j : Int) = (j : Int) + 1) := by omega
  have hb1 : (0 : Int) ≤ (j : Int) + 1 := by omega
  have htn : ((j : Int) + 1).toNat = j + 1 := by omega
  have hjc : j ≤ cap := by omega
  have hjc1 : j + 1 ≤ cap := by omega
  have hjk : j ≤ k + 1 := by omega
  have hb2 : (j : Int) + 1 ≤ (k : Int) + 1 := by omega
  have hb3 : ¬ (cap = k) := by omega
  have hb4 : (k : Int) + 1 ≤ (cap : Int) := by omega
  have hcm' : (cap : Int) ≤ 9223372036854775807 := by unfold maxLen at hcm; omega
  clear hW1 hR hR1 hR2 hown hCx hxl hdl h hp hsrc
  go_enter Try.func101, Try.ntmps101
  go_wp2_with fail
  go_still_tail 6, (by kernel_rfl)
  change wpList _ _ _ _ _ w.drew
  go_wp2_with (first
    | (at_builtin; refine Lib.wpList_append_run _ rfl _ _ _ _ rfl _ _ rfl rfl _ _ (hra _ _) ?_)
    | (at_builtin; refine wpList_clear_run rfl _ 31 rfl _ rfl (hcl _ _) ?_)
    | fail)
  go_ret
  exact ⟨rfl, HOWN.out, HT.out⟩
end Go.Proofs.Ytbohpjinkdffhaa
