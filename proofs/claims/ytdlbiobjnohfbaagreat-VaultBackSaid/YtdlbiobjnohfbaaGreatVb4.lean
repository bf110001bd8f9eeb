/- book: sides (a row of pointers). -/
import Derived.Test.YtdlbiobjnohfbaaGreatVb3
namespace Go.Proofs.YtdlbiobjnohfbaaGreat
open Go.RowKit
set_option linter.unusedVariables false
set_option linter.unusedSimpArgs false
theorem row_below {w w' : World} {base e size n : Nat} {v : Value} {xs : List Value} (h : w.ownsRow base e size v n xs) (hb : Below w.heap.size w w') : w'.ownsRow base e size v n xs := by
 refine ⟨h.1, ?_⟩
 rcases h.2 with h0 | ⟨g, cap, cur, hv, hg, hh, hr⟩
 · exact .inl h0
 · exact .inr ⟨g, cap, cur, hv, hg, by rw [hb.block g (Array.getElem?_eq_some_iff.1 hh).1]; exact hh, hr⟩
theorem row_cells {w : World} {base e size : Nat} {v : Value} {n : Nat} {xs : List Value} (h : w.ownsRow base e size v n xs) : ∃ A cap, v = .slice A n cap ∧ n ≤ cap ∧ cap ≤ maxLen ∧ Cells w w.heap.size A n cap size xs := by
 rcases h.2 with ⟨hv, h0⟩ | ⟨g, cap, cur, hv, hg, hh, hc, hm, _⟩
 ·
  subst h0
  have hn : xs = [] := List.eq_nil_of_length_eq_zero (by simpa using h.1)
  subst hn
  exact ⟨_, _, hv, Nat.le_refl _, by unfold maxLen; omega, h.1, fun _ => ⟨rfl, rfl⟩, fun j u hu => by simp at hu⟩
 ·
  subst hv
  have hlt : g < w.heap.size := (Array.getElem?_eq_some_iff.1 hh).1
  refine ⟨_, _, rfl, hc, hm, h.1, (fun e => by cases e), fun j u hu => ⟨g, 0, rfl, hlt, ?_⟩⟩
  have := h.cells (g := g) rfl j u hu
  rw [add_none] at this
  exact this
theorem Tryz.infoSide : (Tryz.prog.info? 148).map (fun i => (i.zero, i.size, i.bytes)) = some (some (.pointer none), 1, 8) := by kernel_rfl
def pt (b k : Nat) : Value := .pointer (some ⟨b, k, none⟩)
def sv (b o : Nat) : List Value := [pt b o, pt b (o + 4), pt b (o + 1), pt b (o + 5), pt b (o + 2), pt b (o + 6), pt b (o + 3), pt b (o + 7)]
theorem two_cells {w : World} {e : TypeId} {p q : Value} : Cells (w.alloc (.cells #[p, q] e)) (w.alloc (.cells #[p, q] e)).heap.size (some ⟨w.heap.size, 0, none⟩) 2 2 1 [p, q] := by
 refine ⟨rfl, (fun e => by cases e), ?_⟩
 intro j u hu
 refine ⟨w.heap.size, 0, rfl, by simp, ?_⟩
 rw [Nat.zero_add, cell_of_row _ _ _ _ _ _ (heap_alloc_new w _)]
 simpa using hu
theorem pt_one {b i j : Nat} : ∀ u ∈ [pt b i, pt b j], u.oneCell' = true := by
 intro u hu
 simp only [List.mem_cons, List.not_mem_nil, or_false] at hu
 rcases hu with rfl | rfl <;> rfl
set_option maxHeartbeats 2000000 in
set_option maxRecDepth 10000 in
theorem bkSides (b o : Nat) (w : World) :
  Calls Tryz.prog 83 #[.pointer (some ⟨b, o, none⟩)] w fun e w' => ∃ g cap, e = .returned (.slice (some ⟨g, 0, none⟩) 8 cap) ∧ w'.ownsRow w.heap.size 148 1 (.slice (some ⟨g, 0, none⟩) 8 cap) 8 (sv b o) ∧ Below w.heap.size w w' := by
 obtain ⟨i0, hi, hz0, hz1, hz2⟩ := info_parts Tryz.infoSide
 go_enter Tryz.func83, Tryz.ntmps83
 go_wp2_with fail
 go_loopw [3, 5] (fun s i wr => ∃ k : Nat, k ≤ 4 ∧ i = .int .i64 k ∧ Hid (wr.ownsRow w.heap.size 148 1 s (2 * k) ((sv b o).take (2 * k))) ∧ Below w.heap.size w wr) (fun _ i _ => 4 - (intOf i).toNat)
 case atStart => exact ⟨0, by omega, rfl, Lib.hid (World.ownsRow_nil _ _ _ _), Below.refl _ _⟩
 case round =>
  obtain ⟨k, hk, rfl, HW, hB⟩ := hrel
  have hBs := hB.size
  have hkk : k = 0 ∨ k = 1 ∨ k = 2 ∨ k = 3 ∨ k = 4 := by omega
  clear hk
  rcases hkk with rfl | rfl | rfl | rfl | rfl
  ·
   go_wp2_with fail
   refine wp_region_held_drew (S := (fun W => Below w.heap.size w W)) (by kernel_rfl) (hB.drew) (fun hHeld => ?_)
   refine tkY 0 (some 8) ?v0k0 rfl ?y0k0 ?r0k0
   case y0k0 => exact tY
   case r0k0 =>
   try simp only [q1,q2,q3,q4,q5]
   refine tkY 1 (some 9) ?v1k0 rfl ?y1k0 ?r1k0
   case y1k0 => exact tY
   case r1k0 =>
   try simp only [q1,q2,q3,q4,q5]
   refine tkY 2 (some 10) ?v2k0 rfl ?y2k0 ?r2k0
   case y2k0 => exact tY
   case r2k0 =>
   try simp only [q1,q2,q3,q4,q5]
   refine tkY 3 (some 11) ?v3k0 rfl ?y3k0 ?r3k0
   case y3k0 => exact tY
   case r3k0 =>
   try simp only [q1,q2,q3,q4,q5]
   refine tkY 4 (some 12) ?v4k0 rfl ?y4k0 ?r4k0
   case y4k0 => exact tY
   case r4k0 =>
   try simp only [q1,q2,q3,q4,q5]
   refine tkY 5 (some 13) ?v5k0 rfl ?y5k0 ?r5k0
   case y5k0 => exact tY
   case r5k0 =>
   try simp only [q1,q2,q3,q4,q5]
   refine tkY 6 (some 14) ?v6k0 rfl ?y6k0 ?r6k0
   case y6k0 => exact tY
   case r6k0 =>
   try simp only [q1,q2,q3,q4,q5]
   refine tkY 7 (some 15) ?v7k0 rfl ?y7k0 ?r7k0
   case y7k0 => exact tY
   case r7k0 =>
   try simp only [q1,q2,q3,q4,q5]
   refine tkY 8 (some 16) ?v8k0 rfl ?y8k0 ?r8k0
   case y8k0 => exact tY
   case r8k0 =>
   try simp only [q1,q2,q3,q4,q5]
   refine tkY 9 (some 17) ?v9k0 rfl ?y9k0 ?r9k0
   case y9k0 => exact tY
   case r9k0 =>
   try simp only [q1,q2,q3,q4,q5]
   refine tkY 10 (some 18) ?v10k0 rfl ?y10k0 ?r10k0
   case y10k0 => exact tY
   case r10k0 =>
   try simp only [q1,q2,q3,q4,q5]
   refine wpAnyH_ready (rs := [11]) (by kernel_rfl) (by simp) ?_
   refine AllReadyH.cons (o := ⟨some 19, _, _, _, _, _⟩) rfl (fun K hK => ?_) AllReadyH.nil
   go_simp
   have hb3 := hHeld.alloc hHeld.size (.cells #[pt b o, pt b (o + 4)] 148)
   refine hK.out _ _ hb3 (fun hHeld => ?_)
   clear hK K
   try simp only [q1,q2,q3,q4,q5]
   refine wpAnyH_ready (rs := [12]) (by kernel_rfl) (by simp) ?_
   refine AllReadyH.cons (o := ⟨some 20, _, _, _, _, _⟩) rfl (fun K hK => ?_) AllReadyH.nil
   obtain ⟨W1, hW1⟩ : ∃ x, x = wr.drew := ⟨_, rfl⟩
   refine step_append_cells rfl (.tmp 8) (.tmp 19) 146 rfl w.heap.size 148 i0 (.pointer none) 1 8 Tryz.underlying146 hi hz0 hz1 hz2 rfl (by decide) _ 0 ((sv b o).take 0) rfl (row_below HW.out ((Below.refl wr.heap.size wr).drew.alloc (Nat.le_refl _) _)) _ _ 2 2 [pt b o, pt b (o + 4)] rfl two_cells pt_one (by unfold maxLen; omega) (by omega) hb3.size ?_
   intro v5 w5 hown5 ht5 hb5
   replace hb3 : Below w.heap.size w w5 := hb3.trans (ht5.below (B := w.heap.size) hb3.size (by intro g hg; exact (HW.out.lt g hg).1))
   have hown6 : w5.ownsRow w.heap.size 148 1 v5 2 ((sv b o).take 2) := hown5
   have HO := Lib.hid hown6
   clear hown5 hown6
   refine hK.out _ _ hb3 (fun hHeld => ?_)
   clear hK K
   try simp only [q1,q2,q3,q4,q5]
   refine tkY 13 (some 3) ?v13k0 rfl ?y13k0 ?r13k0
   case y13k0 => exact tY
   case r13k0 =>
   try simp only [q1,q2,q3,q4,q5]
   refine wpAnyH_done (by kernel_rfl) ?_ _
   go_wp2_with fail
   go_roundw
   case rel => exact ⟨1, by omega, by go_num, HO, hHeld⟩
   case measure => simp [intOf]
  ·
   go_wp2_with fail
   refine wp_region_held_drew (S := (fun W => Below w.heap.size w W)) (by kernel_rfl) (hB.drew) (fun hHeld => ?_)
   refine tkY 0 (some 8) ?v0k1 rfl ?y0k1 ?r0k1
   case y0k1 => exact tY
   case r0k1 =>
   try simp only [q1,q2,q3,q4,q5]
   refine tkY 1 (some 9) ?v1k1 rfl ?y1k1 ?r1k1
   case y1k1 => exact tY
   case r1k1 =>
   try simp only [q1,q2,q3,q4,q5]
   refine tkY 2 (some 10) ?v2k1 rfl ?y2k1 ?r2k1
   case y2k1 => exact tY
   case r2k1 =>
   try simp only [q1,q2,q3,q4,q5]
   refine tkY 3 (some 11) ?v3k1 rfl ?y3k1 ?r3k1
   case y3k1 => exact tY
   case r3k1 =>
   try simp only [q1,q2,q3,q4,q5]
   refine tkY 4 (some 12) ?v4k1 rfl ?y4k1 ?r4k1
   case y4k1 => exact tY
   case r4k1 =>
   try simp only [q1,q2,q3,q4,q5]
   refine tkY 5 (some 13) ?v5k1 rfl ?y5k1 ?r5k1
   case y5k1 => exact tY
   case r5k1 =>
   try simp only [q1,q2,q3,q4,q5]
   refine tkY 6 (some 14) ?v6k1 rfl ?y6k1 ?r6k1
   case y6k1 => exact tY
   case r6k1 =>
   try simp only [q1,q2,q3,q4,q5]
   refine tkY 7 (some 15) ?v7k1 rfl ?y7k1 ?r7k1
   case y7k1 => exact tY
   case r7k1 =>
   try simp only [q1,q2,q3,q4,q5]
   refine tkY 8 (some 16) ?v8k1 rfl ?y8k1 ?r8k1
   case y8k1 => exact tY
   case r8k1 =>
   try simp only [q1,q2,q3,q4,q5]
   refine tkY 9 (some 17) ?v9k1 rfl ?y9k1 ?r9k1
   case y9k1 => exact tY
   case r9k1 =>
   try simp only [q1,q2,q3,q4,q5]
   refine tkY 10 (some 18) ?v10k1 rfl ?y10k1 ?r10k1
   case y10k1 => exact tY
   case r10k1 =>
   try simp only [q1,q2,q3,q4,q5]
   refine wpAnyH_ready (rs := [11]) (by kernel_rfl) (by simp) ?_
   refine AllReadyH.cons (o := ⟨some 19, _, _, _, _, _⟩) rfl (fun K hK => ?_) AllReadyH.nil
   go_simp
   have hb3 := hHeld.alloc hHeld.size (.cells #[pt b (o + 1), pt b (o + 5)] 148)
   refine hK.out _ _ hb3 (fun hHeld => ?_)
   clear hK K
   try simp only [q1,q2,q3,q4,q5]
   refine wpAnyH_ready (rs := [12]) (by kernel_rfl) (by simp) ?_
   refine AllReadyH.cons (o := ⟨some 20, _, _, _, _, _⟩) rfl (fun K hK => ?_) AllReadyH.nil
   obtain ⟨W1, hW1⟩ : ∃ x, x = wr.drew := ⟨_, rfl⟩
   refine step_append_cells rfl (.tmp 8) (.tmp 19) 146 rfl w.heap.size 148 i0 (.pointer none) 1 8 Tryz.underlying146 hi hz0 hz1 hz2 rfl (by decide) _ 2 ((sv b o).take 2) rfl (row_below HW.out ((Below.refl wr.heap.size wr).drew.alloc (Nat.le_refl _) _)) _ _ 2 2 [pt b (o + 1), pt b (o + 5)] rfl two_cells pt_one (by unfold maxLen; omega) (by omega) hb3.size ?_
   intro v5 w5 hown5 ht5 hb5
   replace hb3 : Below w.heap.size w w5 := hb3.trans (ht5.below (B := w.heap.size) hb3.size (by intro g hg; exact (HW.out.lt g hg).1))
   have hown6 : w5.ownsRow w.heap.size 148 1 v5 4 ((sv b o).take 4) := hown5
   have HO := Lib.hid hown6
   clear hown5 hown6
   refine hK.out _ _ hb3 (fun hHeld => ?_)
   clear hK K
   try simp only [q1,q2,q3,q4,q5]
   refine tkY 13 (some 3) ?v13k1 rfl ?y13k1 ?r13k1
   case y13k1 => exact tY
   case r13k1 =>
   try simp only [q1,q2,q3,q4,q5]
   refine wpAnyH_done (by kernel_rfl) ?_ _
   go_wp2_with fail
   go_roundw
   case rel => exact ⟨2, by omega, by go_num, HO, hHeld⟩
   case measure => simp [intOf]
  ·
   go_wp2_with fail
   refine wp_region_held_drew (S := (fun W => Below w.heap.size w W)) (by kernel_rfl) (hB.drew) (fun hHeld => ?_)
   refine tkY 0 (some 8) ?v0k2 rfl ?y0k2 ?r0k2
   case y0k2 => exact tY
   case r0k2 =>
   try simp only [q1,q2,q3,q4,q5]
   refine tkY 1 (some 9) ?v1k2 rfl ?y1k2 ?r1k2
   case y1k2 => exact tY
   case r1k2 =>
   try simp only [q1,q2,q3,q4,q5]
   refine tkY 2 (some 10) ?v2k2 rfl ?y2k2 ?r2k2
   case y2k2 => exact tY
   case r2k2 =>
   try simp only [q1,q2,q3,q4,q5]
   refine tkY 3 (some 11) ?v3k2 rfl ?y3k2 ?r3k2
   case y3k2 => exact tY
   case r3k2 =>
   try simp only [q1,q2,q3,q4,q5]
   refine tkY 4 (some 12) ?v4k2 rfl ?y4k2 ?r4k2
   case y4k2 => exact tY
   case r4k2 =>
   try simp only [q1,q2,q3,q4,q5]
   refine tkY 5 (some 13) ?v5k2 rfl ?y5k2 ?r5k2
   case y5k2 => exact tY
   case r5k2 =>
   try simp only [q1,q2,q3,q4,q5]
   refine tkY 6 (some 14) ?v6k2 rfl ?y6k2 ?r6k2
   case y6k2 => exact tY
   case r6k2 =>
   try simp only [q1,q2,q3,q4,q5]
   refine tkY 7 (some 15) ?v7k2 rfl ?y7k2 ?r7k2
   case y7k2 => exact tY
   case r7k2 =>
   try simp only [q1,q2,q3,q4,q5]
   refine tkY 8 (some 16) ?v8k2 rfl ?y8k2 ?r8k2
   case y8k2 => exact tY
   case r8k2 =>
   try simp only [q1,q2,q3,q4,q5]
   refine tkY 9 (some 17) ?v9k2 rfl ?y9k2 ?r9k2
   case y9k2 => exact tY
   case r9k2 =>
   try simp only [q1,q2,q3,q4,q5]
   refine tkY 10 (some 18) ?v10k2 rfl ?y10k2 ?r10k2
   case y10k2 => exact tY
   case r10k2 =>
   try simp only [q1,q2,q3,q4,q5]
   refine wpAnyH_ready (rs := [11]) (by kernel_rfl) (by simp) ?_
   refine AllReadyH.cons (o := ⟨some 19, _, _, _, _, _⟩) rfl (fun K hK => ?_) AllReadyH.nil
   go_simp
   have hb3 := hHeld.alloc hHeld.size (.cells #[pt b (o + 2), pt b (o + 6)] 148)
   refine hK.out _ _ hb3 (fun hHeld => ?_)
   clear hK K
   try simp only [q1,q2,q3,q4,q5]
   refine wpAnyH_ready (rs := [12]) (by kernel_rfl) (by simp) ?_
   refine AllReadyH.cons (o := ⟨some 20, _, _, _, _, _⟩) rfl (fun K hK => ?_) AllReadyH.nil
   obtain ⟨W1, hW1⟩ : ∃ x, x = wr.drew := ⟨_, rfl⟩
   refine step_append_cells rfl (.tmp 8) (.tmp 19) 146 rfl w.heap.size 148 i0 (.pointer none) 1 8 Tryz.underlying146 hi hz0 hz1 hz2 rfl (by decide) _ 4 ((sv b o).take 4) rfl (row_below HW.out ((Below.refl wr.heap.size wr).drew.alloc (Nat.le_refl _) _)) _ _ 2 2 [pt b (o + 2), pt b (o + 6)] rfl two_cells pt_one (by unfold maxLen; omega) (by omega) hb3.size ?_
   intro v5 w5 hown5 ht5 hb5
   replace hb3 : Below w.heap.size w w5 := hb3.trans (ht5.below (B := w.heap.size) hb3.size (by intro g hg; exact (HW.out.lt g hg).1))
   have hown6 : w5.ownsRow w.heap.size 148 1 v5 6 ((sv b o).take 6) := hown5
   have HO := Lib.hid hown6
   clear hown5 hown6
   refine hK.out _ _ hb3 (fun hHeld => ?_)
   clear hK K
   try simp only [q1,q2,q3,q4,q5]
   refine tkY 13 (some 3) ?v13k2 rfl ?y13k2 ?r13k2
   case y13k2 => exact tY
   case r13k2 =>
   try simp only [q1,q2,q3,q4,q5]
   refine wpAnyH_done (by kernel_rfl) ?_ _
   go_wp2_with fail
   go_roundw
   case rel => exact ⟨3, by omega, by go_num, HO, hHeld⟩
   case measure => simp [intOf]
  ·
   go_wp2_with fail
   refine wp_region_held_drew (S := (fun W => Below w.heap.size w W)) (by kernel_rfl) (hB.drew) (fun hHeld => ?_)
   refine tkY 0 (some 8) ?v0k3 rfl ?y0k3 ?r0k3
   case y0k3 => exact tY
   case r0k3 =>
   try simp only [q1,q2,q3,q4,q5]
   refine tkY 1 (some 9) ?v1k3 rfl ?y1k3 ?r1k3
   case y1k3 => exact tY
   case r1k3 =>
   try simp only [q1,q2,q3,q4,q5]
   refine tkY 2 (some 10) ?v2k3 rfl ?y2k3 ?r2k3
   case y2k3 => exact tY
   case r2k3 =>
   try simp only [q1,q2,q3,q4,q5]
   refine tkY 3 (some 11) ?v3k3 rfl ?y3k3 ?r3k3
   case y3k3 => exact tY
   case r3k3 =>
   try simp only [q1,q2,q3,q4,q5]
   refine tkY 4 (some 12) ?v4k3 rfl ?y4k3 ?r4k3
   case y4k3 => exact tY
   case r4k3 =>
   try simp only [q1,q2,q3,q4,q5]
   refine tkY 5 (some 13) ?v5k3 rfl ?y5k3 ?r5k3
   case y5k3 => exact tY
   case r5k3 =>
   try simp only [q1,q2,q3,q4,q5]
   refine tkY 6 (some 14) ?v6k3 rfl ?y6k3 ?r6k3
   case y6k3 => exact tY
   case r6k3 =>
   try simp only [q1,q2,q3,q4,q5]
   refine tkY 7 (some 15) ?v7k3 rfl ?y7k3 ?r7k3
   case y7k3 => exact tY
   case r7k3 =>
   try simp only [q1,q2,q3,q4,q5]
   refine tkY 8 (some 16) ?v8k3 rfl ?y8k3 ?r8k3
   case y8k3 => exact tY
   case r8k3 =>
   try simp only [q1,q2,q3,q4,q5]
   refine tkY 9 (some 17) ?v9k3 rfl ?y9k3 ?r9k3
   case y9k3 => exact tY
   case r9k3 =>
   try simp only [q1,q2,q3,q4,q5]
   refine tkY 10 (some 18) ?v10k3 rfl ?y10k3 ?r10k3
   case y10k3 => exact tY
   case r10k3 =>
   try simp only [q1,q2,q3,q4,q5]
   refine wpAnyH_ready (rs := [11]) (by kernel_rfl) (by simp) ?_
   refine AllReadyH.cons (o := ⟨some 19, _, _, _, _, _⟩) rfl (fun K hK => ?_) AllReadyH.nil
   go_simp
   have hb3 := hHeld.alloc hHeld.size (.cells #[pt b (o + 3), pt b (o + 7)] 148)
   refine hK.out _ _ hb3 (fun hHeld => ?_)
   clear hK K
   try simp only [q1,q2,q3,q4,q5]
   refine wpAnyH_ready (rs := [12]) (by kernel_rfl) (by simp) ?_
   refine AllReadyH.cons (o := ⟨some 20, _, _, _, _, _⟩) rfl (fun K hK => ?_) AllReadyH.nil
   obtain ⟨W1, hW1⟩ : ∃ x, x = wr.drew := ⟨_, rfl⟩
   refine step_append_cells rfl (.tmp 8) (.tmp 19) 146 rfl w.heap.size 148 i0 (.pointer none) 1 8 Tryz.underlying146 hi hz0 hz1 hz2 rfl (by decide) _ 6 ((sv b o).take 6) rfl (row_below HW.out ((Below.refl wr.heap.size wr).drew.alloc (Nat.le_refl _) _)) _ _ 2 2 [pt b (o + 3), pt b (o + 7)] rfl two_cells pt_one (by unfold maxLen; omega) (by omega) hb3.size ?_
   intro v5 w5 hown5 ht5 hb5
   replace hb3 : Below w.heap.size w w5 := hb3.trans (ht5.below (B := w.heap.size) hb3.size (by intro g hg; exact (HW.out.lt g hg).1))
   have hown6 : w5.ownsRow w.heap.size 148 1 v5 8 ((sv b o).take 8) := hown5
   have HO := Lib.hid hown6
   clear hown5 hown6
   refine hK.out _ _ hb3 (fun hHeld => ?_)
   clear hK K
   try simp only [q1,q2,q3,q4,q5]
   refine tkY 13 (some 3) ?v13k3 rfl ?y13k3 ?r13k3
   case y13k3 => exact tY
   case r13k3 =>
   try simp only [q1,q2,q3,q4,q5]
   refine wpAnyH_done (by kernel_rfl) ?_ _
   go_wp2_with fail
   go_roundw
   case rel => exact ⟨4, by omega, by go_num, HO, hHeld⟩
   case measure => simp [intOf]
  ·
   go_wp2_with fail
   obtain ⟨A, cap, hs, hc1, hc2, hc3⟩ := row_cells HW.out
   obtain ⟨g, cap', hf, _, _, _, _⟩ := own_form HW.out (by omega)
   subst hf
   go_wp2_with fail
   go_ret
   exact ⟨g, _, rfl, HW.out, hB⟩
end Go.Proofs.YtdlbiobjnohfbaaGreat
