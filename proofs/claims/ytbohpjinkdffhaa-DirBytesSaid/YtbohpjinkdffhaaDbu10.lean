/- The directory: slices.Insert of one zone. -/
import Derived.Test.YtbohpjinkdffhaaProg
import Derived.WalkKit
import Derived.WalkSpells
import Derived.WalkLawsBesides
import Derived.Deep.QuietTactic
import Derived.BigQuiet
import Derived.RegionTactic
import Derived.BigRegion
import Derived.Outline
import Derived.LoopTactic
import Derived.Lib.Hide
import Derived.Deep.RegionHeld3
import GoSem.Op.String
import Derived.Lib.Strings
import Derived.Laws.AppendOwnNone
import Derived.Deep.AppendLies
import Derived.Maps.AppendAt
import Derived.Laws.Rows
import Derived.Deep.Cut
import Derived.StillTailTactics
import Derived.Laws.IdiomCopy
import Derived.Lib.AppendZerosOnto
import Derived.Lib.Overlaps
import Derived.Lib.ReflectliteSwap
import Derived.Deep.RegionLaw
import Derived.Test.YtbohpjinkdffhaaDbu0
import Derived.Test.YtbohpjinkdffhaaDbu3
import Derived.Test.YtbohpjinkdffhaaDbu6
import Derived.Test.YtbohpjinkdffhaaDbu9
namespace Go.Proofs.Ytbohpjinkdffhaa
open Go.RowKit
set_option linter.unusedVariables false
set_option linter.unusedSimpArgs false
def z0V : List Value := [.int .i64 0, .string ⟨#[]⟩, .string ⟨#[]⟩, .int .i64 0, .int .i64 0, .int .i64 0, .int .i64 0, .string ⟨#[]⟩, .int .i64 0]
theorem Try.infoZone : (Try.prog.info? 39).map (fun i => (i.zero, i.size, i.bytes)) = some (some (.agg #[.int .i64 0, .string ⟨#[]⟩, .string ⟨#[]⟩, .int .i64 0, .int .i64 0, .int .i64 0, .int .i64 0, .string ⟨#[]⟩, .int .i64 0]), 9, 96) := by kernel_rfl
theorem drInfoS : (Try.prog.info? 39).map (·.size) = some 9 := by kernel_rfl
/-- what Insert leaves -/
def InsQ (B g n : Nat) (out : List Value) (w : World) (e : Ending) (w' : World) : Prop :=
  ∃ s', e = .returned s' ∧ w'.ownsRow B 39 9 s' n out ∧ Touch (fun k => k = g) w w' ∧ (∀ k, s'.ownBlock = some k → k = g ∨ w.heap.size ≤ k)
theorem vs_cells {w : World} {vb : Nat} {vs : List Value} (hv : Whl w vb 39 vs.toArray) (hl : vs.length = 9) : Cells w w.heap.size (some ⟨vb, 0, none⟩) 1 1 9 vs :=
  by
  refine ⟨by rw [hl], (fun h => nomatch h), fun j u hj => ⟨vb, 0, rfl, hv.low, ?_⟩⟩
  rw [Nat.zero_add, hv.cell j]; simpa using hj
theorem patch_new {zs X vs : List Value} {P : List Value} {a b S : Nat} (hP : P.length = a) (hX : X.length = b - a) (hv : vs.length = S) (hab : a ≤ b) (hz : b + S - a ≤ zs.length) :
    (patchL (patchL (P ++ zs) a vs) (a + S) X).take (b + S) = P ++ vs ++ X := by
  have hp := patchL_len (P ++ zs) a vs (by rw [List.length_append]; omega)
  rw [List.length_append] at hp
  have l2 : (P ++ vs).length = a + S := by rw [List.length_append, hP, hv]
  apply List.ext_getElem?
  intro k
  rw [List.getElem?_take]
  by_cases hk : k < b + S
  · rw [if_pos hk, patchL_get _ _ _ (by omega), patchL_get _ _ _ (by rw [List.length_append]; omega), hX, hv]
    by_cases h1 : k < a
    · rw [if_pos (by omega), if_pos h1, List.getElem?_append_left (by omega), List.getElem?_append_left (by omega), List.getElem?_append_left (by omega)]
    · by_cases h2 : k < a + S
      · rw [if_pos h2, if_neg h1, if_pos h2, List.getElem?_append_left (by omega), List.getElem?_append_right (by omega), hP]
      · rw [if_neg h2, if_pos (by omega), List.getElem?_append_right (by omega), l2]
  · rw [if_neg hk, List.getElem?_eq_none (by rw [List.length_append, l2, hX]; omega)]
set_option maxHeartbeats 8000000 in
set_option maxRecDepth 100000 in
theorem drInsEnd (B g cap n vb : Nat) (xs vs : List Value) (w : World) (h : w.ownsRow B 39 9 (.slice (some ⟨g, 0, none⟩) n cap) n xs) (hn : n ≤ 1000) (hB : B ≤ w.heap.size) (hv : Whl w vb 39 vs.toArray) (hl : vs.length = 9) (h1v : ∀ u ∈ vs, u.oneCell' = true) :
    Calls Try.prog 100 #[.slice (some ⟨g, 0, none⟩) n cap, .int .i64 n, .slice (some ⟨vb, 0, none⟩) 1 1] w (InsQ B g (n + 1) (xs ++ vs) w) := by
  obtain ⟨i0, hi0, hz0, hz1, hz2⟩ := info_parts Try.infoZone
  have HO := Lib.hid h
  have HC := Lib.hid (vs_cells hv hl)
  have H1 := Lib.hid h1v
  obtain ⟨A', c', e', _, hnc, hcm⟩ := own_slice h
  injection e' with e1 e2 e3
  subst e3
  have hcm' : (cap : Int) ≤ 9223372036854775807 := by unfold maxLen at hcm; omega
  clear h hv hl h1v e1 e2
  go_enter Try.func100, Try.ntmps100
  go_wp2_with (first
    | (at_builtin; refine wpList_append_touch rfl (.tmp 23) (.tmp 24) 31 rfl B 39 i0 _ 9 96 Try.underlying31 hi0 hz0 hz1 hz2 rfl (by decide) (.slice (some ⟨g, 0, none⟩) n cap) n xs rfl HO.out w.heap.size _ 1 1 vs rfl HC.out H1.out (by unfold maxLen; omega) (by omega) hB ?_; intro v5 w5 ho5 ht5 hb5; have HO5 := Lib.hid ho5; have HT5 := Lib.hid ht5; have HB5 := Lib.hid hb5; clear ho5 ht5 hb5)
    | fail)
  all_goals go_ret
  all_goals refine ⟨v5, rfl, HO5.out, HT5.out.mono (fun k hk => by simpa [Value.ownBlock] using hk.symm), fun k hk => ?_⟩
  all_goals rcases HB5.out with e | e
  all_goals rw [e] at hk
  all_goals first | (exact .inl (by simpa [Value.ownBlock] using hk.symm)) | (exact .inr (by injection hk with hk; omega))
set_option maxHeartbeats 8000000 in
set_option maxRecDepth 100000 in
theorem drInsRoom (B g cap n i vb : Nat) (xs vs : List Value) (w : World) (h : w.ownsRow B 39 9 (.slice (some ⟨g, 0, none⟩) n cap) n xs) (hi : i < n) (hroom : n + 1 ≤ cap) (hv : Whl w vb 39 vs.toArray) (hl : vs.length = 9) (h1x : ∀ u ∈ xs, u.oneCell' = true) (h1v : ∀ u ∈ vs, u.oneCell' = true) (hne : vb ≠ g) :
    Calls Try.prog 100 #[.slice (some ⟨g, 0, none⟩) n cap, .int .i64 i, .slice (some ⟨vb, 0, none⟩) 1 1] w (InsQ B g (n + 1) (xs.take (i * 9) ++ vs ++ xs.drop (i * 9)) w) := by
  have hxl : xs.length = n * 9 := h.1
  obtain ⟨C, hR, hCx, hnc, hcm, hB⟩ := RowB.of_own h
  have hdl : (xs.drop (i * 9)).length = (n - i) * 9 := by rw [List.length_drop, hxl]; omega
  have hsv : w.shape? vb = some (39, 9) := by
    unfold World.shape?
    rw [show w.heap[vb]? = _ from hv]
    simp [hl]
  have hov : ∀ lb cb, (callFunc 102 #[.slice (some ⟨vb, 0, none⟩) 1 1, .slice (some ⟨g, (i + 1) * 9, none⟩) lb cb]).run Try.prog w = .ok (.value (.bool false)) w := fun lb cb => by
    rw [run_callFunc_extern Try.func102 (by kernel_rfl) (by kernel_rfl) (by kernel_rfl) (e := Extern.SlicesOverlaps.overlaps #[31, 31] #[4]) (by kernel_rfl),
      Lib.run_overlaps_apart w 31 4 39 Try.underlying31 9 Try.sizeOf39 ⟨vb, 0, none⟩ ⟨g, (i + 1) * 9, none⟩ 1 1 lb cb hne _ _ _ _ hsv hR.shape (by omega) (hv.free 0) (hv.free 9)]
    rfl
  have hcp1 : ∀ ty dc sc, (Builtin.copy_ #[31, 31] ty #[.slice (some ⟨g, (i + 1) * 9, none⟩) (n - i) dc, .slice (some ⟨g, i * 9, none⟩) (n + 1 - i) sc]).run Try.prog w.drew = .ok (goInt (Nat.min (n + 1 - i) (n - i))) (w.drew.setCells g ((i + 1) * 9) (xs.drop (i * 9))) := fun ty dc sc => by
    refine run_copy_cellsN w.drew _ _ ty 39 9 g ((i + 1) * 9) (n - i) dc ⟨g, i * 9, none⟩ (n + 1 - i) sc (xs.drop (i * 9)) Try.underlying31 drInfoS (by rw [hdl]; simp only [Nat.min_def]; split <;> omega) (fun j v hj => ?_) (fun j hj => hR.drew.isSome (by rw [hdl] at hj; omega)) (fun j _ => hR.drew.free _) (fun v hv => h1x v (List.mem_of_mem_drop hv))
    rw [add_none, hR.drew.cell, ← hj, List.getElem?_drop, ← hCx, List.getElem?_take, if_pos (by
      have := (List.getElem?_eq_some_iff.1 hj).1
      rw [hdl] at this
      omega)]
  obtain ⟨W1, hW1⟩ : ∃ W1, W1 = w.drew.setCells g ((i + 1) * 9) (xs.drop (i * 9)) := ⟨_, rfl⟩
  have hR1 : RowB W1 g 39 cap 9 (patchL C ((i + 1) * 9) (xs.drop (i * 9))) := by rw [hW1]; exact hR.drew.patch _ _ (by rw [hdl]; omega)
  have hv1 : Whl W1 vb 39 vs.toArray := by rw [hW1]; exact ((setCells_touch g _ _ _).block vb hv.drew.low hne).trans hv.drew
  have hcp2 : ∀ ty dc, (Builtin.copy_ #[31, 31] ty #[.slice (some ⟨g, i * 9, none⟩) (n + 1 - i) dc, .slice (some ⟨vb, 0, none⟩) 1 1]).run Try.prog W1 = .ok (goInt (Nat.min 1 (n + 1 - i))) (W1.setCells g (i * 9) vs) := fun ty dc =>
    run_copy_cellsN W1 _ _ ty 39 9 g (i * 9) (n + 1 - i) dc ⟨vb, 0, none⟩ 1 1 vs Try.underlying31 drInfoS (by rw [hl]; simp only [Nat.min_def]; split <;> omega) (fun j v hj => by rw [add_none, Nat.zero_add, hv1.cell j]; simpa using hj) (fun j hj => hR1.isSome (by omega)) (fun j _ => hR1.free _) h1v
  rw [← hW1] at hcp1
  have hR2 := hR1.patch (i * 9) vs (by rw [hl]; omega)
  have hown := hR2.own hB hroom hcm
  rw [← hCx, patch_in (by omega) hl (by rw [hR.len]; omega)] at hown
  rw [hCx] at hown
  have HT : Hid (Touch (fun k => k = g) w (W1.setCells g (i * 9) vs)) := Lib.hid (by
    rw [hW1]
    exact ((Touch.of_drew (fun k => k = g) w).trans (setCells_touch g _ _ _) (fun _ _ h => h) : Touch (fun k => k = g) w _) |>.trans (setCells_touch g _ _ _) (fun _ _ h => h))
  have HOWN := Lib.hid hown
  have hw1 : IntKind.i64.wrap ((i : Int) + 1) = (i : Int) + 1 := by rw [IntKind.wrap_i64]; unfold maxLen at hcm; omega
  have hw2 : IntKind.i64.wrap ((n : Int) + 1) = (n : Int) + 1 := by rw [IntKind.wrap_i64]; unfold maxLen at hcm; omega
  have hb0 : ¬ ((i : Int) = (n : Int)) := by omega
  have hb1 : (0 : Int) ≤ (i : Int) + 1 := by omega
  have hin : i ≤ n := by omega
  have htn : ((i : Int) + 1).toNat = i + 1 := by omega
  have htn2 : ((n : Int) + 1).toNat = n + 1 := by omega
  have hb2 : ¬ (cap = i + 1) := by omega
  have hb3 : (i : Int) ≤ (n : Int) + 1 := by omega
  have hb4 : ¬ (cap = i) := by omega
  have hb5 : (n : Int) + 1 ≤ (cap : Int) := by omega
  have hcm' : (cap : Int) ≤ 9223372036854775807 := by unfold maxLen at hcm; omega
  clear hW1 hR hR1 hR2 hv hv1 hsv hown hCx hxl hdl h
  go_enter Try.func100, Try.ntmps100
  go_wp2_with (simp only [hov])
  go_still_tail 8, (by kernel_rfl)
  change wpList _ _ _ _ _ w.drew
  go_wp2_with (first
    | (at_builtin; refine wpList_copy_run rfl _ _ 31 31 rfl _ _ rfl rfl (hcp1 _ _ _) ?_)
    | (at_builtin; refine wpList_copy_run rfl _ _ 31 31 rfl _ _ rfl rfl (hcp2 _ _) ?_)
    | fail)
  go_ret
  exact ⟨_, rfl, HOWN.out, HT.out, fun k hk => .inl (by simpa [Value.ownBlock] using hk.symm)⟩
set_option maxHeartbeats 8000000 in
set_option maxRecDepth 100000 in
theorem drInsGrow (B g cap n i vb : Nat) (xs vs : List Value) (w : World) (h : w.ownsRow B 39 9 (.slice (some ⟨g, 0, none⟩) n cap) n xs) (hi : i < n) (hn : n ≤ 1000) (hroom : cap < n + 1) (hv : Whl w vb 39 vs.toArray) (hl : vs.length = 9) (h1x : ∀ u ∈ xs, u.oneCell' = true) (h1v : ∀ u ∈ vs, u.oneCell' = true) :
    Calls Try.prog 100 #[.slice (some ⟨g, 0, none⟩) n cap, .int .i64 i, .slice (some ⟨vb, 0, none⟩) 1 1] w (InsQ B g (n + 1) (xs.take (i * 9) ++ vs ++ xs.drop (i * 9)) w) := by
  obtain ⟨i0, hi0, hz0, hz1, hz2⟩ := info_parts Try.infoZone
  have hxl : xs.length = n * 9 := h.1
  obtain ⟨C, hR, hCx, hnc, hcm, hB⟩ := RowB.of_own h
  have hgw := hR.lt
  have hdl : (xs.drop (i * 9)).length = (n - i) * 9 := by rw [List.length_drop, hxl]; omega
  have htl : (xs.take (i * 9)).length = i * 9 := by rw [List.length_take, hxl]; omega
  have hxc : ∀ j v, xs[j]? = some v → w.cell? ⟨g, j, none⟩ = some v := fun j v hj => by
    rw [hR.cell, ← hj, ← hCx, List.getElem?_take, if_pos (by have := (List.getElem?_eq_some_iff.1 hj).1; omega)]
  have hik : i + (n + 1 - i) = n + 1 := by omega
  have hkk : (n : Int) + 1 - (i : Int) = ((n + 1 - i : Nat) : Int) := by omega
  have hold : (Builtin.firstCells i0.size i (.slice (some ⟨g, 0, none⟩) i cap)).run Try.prog w.drew = .ok (xs.take (i * 9)).toArray w.drew := by
    rw [hz1]
    exact run_firstCells_some w.drew 9 i ⟨g, 0, none⟩ i cap (xs.take (i * 9)) htl (fun j v hj => by
      rw [add_none, Nat.zero_add]
      rw [List.getElem?_take] at hj
      split at hj
      · exact hxc j v hj
      · cases hj)
  have hrz : ∀ ty, (Builtin.append_ #[31, 3] ty #[.slice (some ⟨g, 0, none⟩) i cap, .int .i64 ((n : Int) + 1 - (i : Int))]).run Try.prog w =
      .ok (.slice (some ⟨w.heap.size, 0, none⟩) (n + 1) (grownCap w (n + 1) cap 39)) (w.drew.alloc (.cells ((xs.take (i * 9)).toArray ++ Builtin.zeroCells z0V.toArray (n + 1 - i) ++ Builtin.zeroCells z0V.toArray (grownCap w (n + 1) cap 39 - (n + 1))) 39)) := fun ty => by
    have h := Lib.run_append_grow_zeros (P := Try.prog) w 31 3 ty 39 i0 _ .i64 .i64 Try.underlying31 Try.underlying3 hi0 hz0 (some ⟨g, 0, none⟩) i cap (xs.take (i * 9)) hold (n + 1 - i) (by omega) (by omega) (by omega) (by omega) (by rw [hz2]; omega) (by rw [hz2, hik]; exact growslice_fits hroom (by omega))
    rw [hik] at h
    rw [hkk]
    exact h
  obtain ⟨G, hG⟩ : ∃ G, G = grownCap w (n + 1) cap 39 := ⟨_, rfl⟩
  have hGn : n + 1 ≤ G := by rw [hG]; exact grownCap_ge w _ _ _
  have hGm : G ≤ maxLen := by rw [hG]; exact grownCap_le_maxLen w (n + 1) cap 39 (by unfold maxLen; omega)
  rw [← hG] at hrz
  obtain ⟨N, hN⟩ : ∃ N, N = w.heap.size := ⟨_, rfl⟩
  obtain ⟨Z, hZ⟩ : ∃ Z : List Value, Z = (Builtin.zeroCells z0V.toArray (n + 1 - i) ++ Builtin.zeroCells z0V.toArray (G - (n + 1))).toList := ⟨_, rfl⟩
  have hZl : Z.length = (G - i) * 9 := by
    rw [hZ]
    simp [Builtin.zeroCells, z0V]
    omega
  obtain ⟨W1, hW1⟩ : ∃ W1, W1 = w.drew.alloc (.cells ((xs.take (i * 9)).toArray ++ Builtin.zeroCells z0V.toArray (n + 1 - i) ++ Builtin.zeroCells z0V.toArray (G - (n + 1))) 39) := ⟨_, rfl⟩
  rw [← hW1, ← hN] at hrz
  have hR1 : RowB W1 N 39 G 9 (xs.take (i * 9) ++ Z) := by
    refine ⟨⟨_, by rw [hW1, hN]; exact heap_alloc_new w.drew _, ?_⟩, ?_⟩
    · rw [hZ]; simp
    · rw [List.length_append, htl, hZl]; omega
  have hT1 : Touch (fun _ => False) w W1 := by rw [hW1]; exact (Touch.of_drew _ _).alloc _
  have hv1 : Whl W1 vb 39 vs.toArray := (hT1.block vb hv.low (fun h => h)).trans hv
  have hNv : vb ≠ N := by have := hv.low; omega
  have hNg : g ≠ N := by omega
  have hcp1 : ∀ ty dc, (Builtin.copy_ #[31, 31] ty #[.slice (some ⟨N, i * 9, none⟩) (n + 1 - i) dc, .slice (some ⟨vb, 0, none⟩) 1 1]).run Try.prog W1 = .ok (goInt (Nat.min 1 (n + 1 - i))) (W1.setCells N (i * 9) vs) := fun ty dc =>
    run_copy_cellsN W1 _ _ ty 39 9 N (i * 9) (n + 1 - i) dc ⟨vb, 0, none⟩ 1 1 vs Try.underlying31 drInfoS (by rw [hl]; simp only [Nat.min_def]; split <;> omega) (fun j v hj => by rw [add_none, Nat.zero_add, hv1.cell j]; simpa using hj) (fun j hj => hR1.isSome (by omega)) (fun j _ => hR1.free _) h1v
  have hR2 := hR1.patch (i * 9) vs (by rw [hl]; omega)
  have hT2 : Touch (fun k => k = N) W1 (W1.setCells N (i * 9) vs) := setCells_touch _ _ _ _
  obtain ⟨W2, hW2⟩ : ∃ W2, W2 = W1.setCells N (i * 9) vs := ⟨_, rfl⟩
  rw [← hW2] at hcp1 hR2 hT2
  have hcp2 : ∀ ty dc sc, (Builtin.copy_ #[31, 31] ty #[.slice (some ⟨N, (i + 1) * 9, none⟩) (n - i) dc, .slice (some ⟨g, i * 9, none⟩) (n - i) sc]).run Try.prog W2.drew = .ok (goInt (Nat.min (n - i) (n - i))) (W2.drew.setCells N ((i + 1) * 9) (xs.drop (i * 9))) := fun ty dc sc => by
    refine run_copy_cellsN W2.drew _ _ ty 39 9 N ((i + 1) * 9) (n - i) dc ⟨g, i * 9, none⟩ (n - i) sc (xs.drop (i * 9)) Try.underlying31 drInfoS (by rw [hdl]; simp [Nat.min_def]) (fun j v hj => ?_) (fun j hj => hR2.drew.isSome (by rw [hdl] at hj; omega)) (fun j _ => hR2.drew.free _) (fun v hv => h1x v (List.mem_of_mem_drop hv))
    rw [add_none]
    rw [List.getElem?_drop] at hj
    exact hT2.cell (hT1.cell (hxc _ _ hj) (fun h => h)) hNg
  have hR3 := hR2.drew.patch ((i + 1) * 9) (xs.drop (i * 9)) (by rw [hdl]; omega)
  have hown := hR3.own (B := B) (by have := hB; omega) hGn hGm
  have e1 : (i + 1) * 9 = i * 9 + 9 := by omega
  have e2 : (n + 1) * 9 = n * 9 + 9 := by omega
  rw [e1, e2, patch_new htl (by rw [hdl]; omega) hl (by omega) (by rw [hZl]; omega)] at hown
  rw [← e1] at hown
  have HT : Hid (Touch (fun k => k = g) w (W2.drew.setCells N ((i + 1) * 9) (xs.drop (i * 9)))) := Lib.hid
    ((((hT1.trans hT2 (fun k hk e => by omega)).drewN 1).trans (setCells_touch N _ _ _) (fun k hk e => by omega)).mono (fun _ h => h.elim))
  have HOWN := Lib.hid hown
  have HN := Lib.hid hN
  have hw1 : IntKind.i64.wrap ((i : Int) + 1) = (i : Int) + 1 := by rw [IntKind.wrap_i64]; omega
  have hw2 : IntKind.i64.wrap ((n : Int) + 1) = (n : Int) + 1 := by rw [IntKind.wrap_i64]; omega
  have hw3 : IntKind.i64.wrap ((n : Int) + 1 - (i : Int)) = (n : Int) + 1 - (i : Int) := by rw [IntKind.wrap_i64]; omega
  have hb0 : ¬ ((i : Int) = (n : Int)) := by omega
  have hb1 : (0 : Int) ≤ (i : Int) + 1 := by omega
  have hin : i ≤ n := by omega
  have htn : ((i : Int) + 1).toNat = i + 1 := by omega
  have hb2 : ¬ (G = i + 1) := by omega
  have hb3 : (i : Int) ≤ (n : Int) + 1 := by omega
  have hb4 : ¬ (cap = i) := by omega
  have hb6 : ¬ (G = i) := by omega
  have hb5 : (cap : Int) < (n : Int) + 1 := by omega
  have hcm' : (cap : Int) ≤ 9223372036854775807 := by unfold maxLen at hcm; omega
  have hGm' : (G : Int) ≤ 9223372036854775807 := by unfold maxLen at hGm; omega
  clear e1 e2 hW1 hW2 hR hR1 hR2 hR3 hT1 hT2 hv hv1 hown hCx hxl hdl htl h hold hxc hZ hZl hG hkk hik hN
  go_enter Try.func100, Try.ntmps100
  go_wp2_with (first
    | (at_builtin; refine Lib.wpList_append_run _ rfl _ _ _ _ rfl _ _ rfl rfl _ _ (hrz _) ?_)
    | (at_builtin; refine wpList_copy_run rfl _ _ 31 31 rfl _ _ rfl rfl (hcp1 _ _) ?_)
    | fail)
  go_still_tail 8, (by kernel_rfl)
  change wpList _ _ _ _ _ W2.drew
  go_wp2_with (first
    | (at_builtin; refine wpList_copy_run rfl _ _ 31 31 rfl _ _ rfl rfl (hcp2 _ _ _) ?_)
    | fail)
  go_ret
  exact ⟨_, rfl, HOWN.out, HT.out, fun k hk => .inr (by rw [← HN.out]; have : N = k := (by simpa [Value.ownBlock] using hk); omega)⟩
theorem drInsert (B g cap n i vb : Nat) (xs vs : List Value) (w : World) (h : w.ownsRow B 39 9 (.slice (some ⟨g, 0, none⟩) n cap) n xs) (hi : i ≤ n) (hn : n ≤ 1000) (hB : B ≤ w.heap.size) (hv : Whl w vb 39 vs.toArray) (hl : vs.length = 9) (h1x : ∀ u ∈ xs, u.oneCell' = true) (h1v : ∀ u ∈ vs, u.oneCell' = true) (hne : vb ≠ g) :
    Calls Try.prog 100 #[.slice (some ⟨g, 0, none⟩) n cap, .int .i64 i, .slice (some ⟨vb, 0, none⟩) 1 1] w (InsQ B g (n + 1) (xs.take (i * 9) ++ vs ++ xs.drop (i * 9)) w) := by
  by_cases e : i = n
  · subst e
    have := drInsEnd B g cap i vb xs vs w h hn hB hv hl h1v
    rw [List.take_of_length_le (by have := h.1; omega), List.drop_eq_nil_of_le (by have := h.1; omega), List.append_nil]
    exact this
  · by_cases hr : n + 1 ≤ cap
    · exact drInsRoom B g cap n i vb xs vs w h (by omega) hr hv hl h1x h1v hne
    · exact drInsGrow B g cap n i vb xs vs w h (by omega) hn (by omega) hv hl h1x h1v
end Go.Proofs.Ytbohpjinkdffhaa
