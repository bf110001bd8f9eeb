/- The document's own put. -/
import Derived.Test.YtblknjclkecglaaEcA
import Derived.Deep.RegionHeld3
namespace Go.Proofs.Ytblknjclkecglaa
open Go.RowKit
set_option linter.unusedVariables false
set_option linter.unusedSimpArgs false

theorem bwb {B : Nat} {a W : World} {s : ByteArray} (h : Below B a (Lib.bytesWorld W 5 s)) : Below W.heap.size W (Lib.bytesWorld W 5 s) := bw_below W _ s
set_option maxHeartbeats 4000000 in
set_option maxRecDepth 10000 in
theorem refPut (ak aw : ByteArray) (w : World) (h1 : ak.size ≤ 10000) (h2 : aw.size ≤ 10000) :
    Calls Try.prog 24 #[.agg #[.string ak, .string aw]] w fun e w' => ∃ v', e = .returned v' ∧ w'.ownsRow w.heap.size 5 1 v' (encb [bs ak, bs aw]).length (flatU (encb [bs ak, bs aw])) ∧ Below w.heap.size w w' := by
  obtain ⟨i0, hi, hz0, hz1, hz2⟩ := info_parts Try.infoByte
  have cv : ∀ (w : World) (s : ByteArray), (convert 9 27 (.string s)).run Try.prog w = .ok (.slice (some ⟨w.heap.size, 0, none⟩) s.size (grownCap w s.size 0 5)) (Lib.bytesWorld w 5 s) := fun w s => Lib.run_convert_string_bytes w _ _ _ s Try.underlying9 Try.underlying27 Try.underlying5
  have HE : Hid (encb [bs ak, bs aw] = (enc ak.size ++ bs ak) ++ (enc aw.size ++ bs aw)) := Lib.hid (by simp [encb, bs_length])
  have he1 : (enc ak.size ++ bs ak).length ≤ 20000 := by have := enc_len (show ak.size ≤ 4611686018427387904 by omega); rw [List.length_append, bs_length]; omega
  have he2 : (enc aw.size ++ bs aw).length ≤ 20000 := by have := enc_len (show aw.size ≤ 4611686018427387904 by omega); rw [List.length_append, bs_length]; omega
  obtain ⟨xa, hxa⟩ : ∃ y, y = enc ak.size ++ bs ak := ⟨_, rfl⟩
  obtain ⟨xb, hxb⟩ : ∃ y, y = enc aw.size ++ bs aw := ⟨_, rfl⟩
  rw [← hxa] at he1
  rw [← hxb] at he2
  have HXA := Lib.hid hxa
  have HXB := Lib.hid hxb
  clear hxa hxb
  go_enter Try.func24, Try.ntmps24
  go_wp2_with fail
  have hB0 : Below w.heap.size w (w.alloc (.cells #[.string ak, .string aw] 23)) := (Below.refl _ _).alloc (Nat.le_refl _) _
  have P0 : Whl (w.alloc (.cells #[.string ak, .string aw] 23)) w.heap.size 23 #[.string ak, .string aw] := Whl.new rfl
  have hltV : w.heap.size < (w.alloc (.cells #[.string ak, .string aw] 23)).heap.size := by simp
  generalize (w.alloc (.cells #[.string ak, .string aw] 23)) = V at *
  have k0 := P0.cell 0
  have k1 := P0.cell 1
  simp only [List.getElem?_toArray, List.getElem?_cons_succ, List.getElem?_cons_zero] at k0 k1
  clear P0
  refine wp_region_held_drew (S := (fun W => Below V.heap.size V W ∧ W.cell? ⟨w.heap.size, 0, none⟩ = some (.string ak) ∧ W.cell? ⟨w.heap.size, 1, none⟩ = some (.string aw))) (by kernel_rfl) ⟨(Below.refl _ _).drew, k0, k1⟩ (fun hHeld => ?_)
  refine wpAnyH_take (i := 0) (oi := ⟨some 3, _, _, _, _, _⟩) (v := ?v0_1) rfl (by kernel_rfl) (by kernel_rfl) (by kernel_rfl) (fun _ _ _ h => h) (Or.inl ⟨by rfl, ?y0_1⟩) (by assumption) ?r0_1
  case y0_1 => (intro w hSw; (try dsimp only at hSw); (try go_split_ands); go_simp); (try with_reducible rfl)
  case r0_1 =>
  (try simp only [Act.put, List.setIfInBounds_toArray, List.set_cons_zero, List.set_cons_succ])
  refine wpAnyH_take (i := 1) (oi := ⟨some 4, _, _, _, _, _⟩) (v := ?v1_4) rfl (by kernel_rfl) (by kernel_rfl) (by kernel_rfl) (fun _ _ _ h => h) (Or.inl ⟨by rfl, ?y1_4⟩) (by assumption) ?r1_4
  case y1_4 => (intro w hSw; (try dsimp only at hSw); (try go_split_ands); go_simp); (try with_reducible rfl)
  case r1_4 =>
  (try simp only [Act.put, List.setIfInBounds_toArray, List.set_cons_zero, List.set_cons_succ])
  refine wpAnyH_take (i := 4) (oi := ⟨some 7, _, _, _, _, _⟩) (v := ?v4_7) rfl (by kernel_rfl) (by kernel_rfl) (by kernel_rfl) (fun _ _ _ h => h) (Or.inl ⟨by rfl, ?y4_7⟩) (by assumption) ?r4_7
  case y4_7 => (intro w hSw; (try dsimp only at hSw); (try go_split_ands); go_simp); (try with_reducible rfl)
  case r4_7 =>
  (try simp only [Act.put, List.setIfInBounds_toArray, List.set_cons_zero, List.set_cons_succ])
  refine wpAnyH_take (i := 5) (oi := ⟨some 8, _, _, _, _, _⟩) (v := ?v5_10) rfl (by kernel_rfl) (by kernel_rfl) (by kernel_rfl) (fun _ _ _ h => h) (Or.inl ⟨by rfl, ?y5_10⟩) (by assumption) ?r5_10
  case y5_10 => (intro w hSw; (try dsimp only at hSw); (try go_split_ands); go_simp); (try with_reducible rfl)
  case r5_10 =>
  (try simp only [Act.put, List.setIfInBounds_toArray, List.set_cons_zero, List.set_cons_succ])
  refine wpAnyH_ready (rs := [2, 6]) (by kernel_rfl) (by simp) ?_
  refine AllReadyH.cons (o := ⟨some 5, _, _, _, _, _⟩) rfl (fun K hK => ?_) (AllReadyH.cons (o := ⟨some 9, _, _, _, _, _⟩) rfl (fun K hK => ?_) AllReadyH.nil)
  · go_simp
    have hb3 := hHeld.1.trans ((bw_below _ 5 ak).mono hHeld.1.size)
    have HCn := bwc hb3
    have HC2 := HCn
    clear HCn
    refine hK.out _ _ ⟨hb3, bkeep hb3 k0 hltV, bkeep hb3 k1 hltV⟩ (fun hHeld => ?_)
    clear hK K
    (try simp only [Act.put, List.setIfInBounds_toArray, List.set_cons_zero, List.set_cons_succ])
    refine wpAnyH_ready (rs := [3, 6]) (by kernel_rfl) (by simp) ?_
    refine AllReadyH.cons (o := ⟨some 6, _, _, _, _, _⟩) rfl (fun K hK => ?_) (AllReadyH.cons (o := ⟨some 9, _, _, _, _, _⟩) rfl (fun K hK => ?_) AllReadyH.nil)
    · go_simp
      refine (refBytes _ _ ak.size (bs ak) _ (bs_length _) (by omega) (fun c => HC2.out _ c (by simp))).mono ?_
      rintro z w8 ⟨v83, rfl, hown8, hb8⟩
      rw [← HXA.out] at hown8
      have hb3 := hHeld.1.trans (hb8.mono hHeld.1.size)
      have HO3 := Lib.hid (hown8.mono hHeld.1.size)
      clear hown8
      go_wp2_with fail
      refine hK.out _ _ ⟨hb3, bkeep hb3 k0 hltV, bkeep hb3 k1 hltV⟩ (fun hHeld => ?_)
      clear hK K
      (try simp only [Act.put, List.setIfInBounds_toArray, List.set_cons_zero, List.set_cons_succ])
      refine wpAnyH_ready (rs := [6]) (by kernel_rfl) (by simp) ?_
      refine AllReadyH.cons (o := ⟨some 9, _, _, _, _, _⟩) rfl (fun K hK => ?_) AllReadyH.nil
      go_simp
      have hb3 := hHeld.1.trans ((bw_below _ 5 aw).mono hHeld.1.size)
      have HCn := bwc hb3
      have hq8 := bwb hb3
      have HO3 := Lib.hid (row_below HO3.out hq8)
      have HC6 := HCn
      clear HCn
      refine hK.out _ _ ⟨hb3, bkeep hb3 k0 hltV, bkeep hb3 k1 hltV⟩ (fun hHeld => ?_)
      clear hK K
      (try simp only [Act.put, List.setIfInBounds_toArray, List.set_cons_zero, List.set_cons_succ])
      refine wpAnyH_ready (rs := [7]) (by kernel_rfl) (by simp) ?_
      refine AllReadyH.cons (o := ⟨some 10, _, _, _, _, _⟩) rfl (fun K hK => ?_) AllReadyH.nil
      go_simp
      refine (refBytes _ _ aw.size (bs aw) _ (bs_length _) (by omega) (fun c => HC6.out _ c (by simp))).mono ?_
      rintro z w8 ⟨v87, rfl, hown8, hb8⟩
      rw [← HXB.out] at hown8
      have hb3 := hHeld.1.trans (hb8.mono hHeld.1.size)
      have HO3 := Lib.hid (row_below HO3.out hb8)
      obtain ⟨A9, c9, rfl, hc9, hm9, hx9⟩ := row_cells hown8
      have HX7 := Lib.hid hx9
      clear hown8 hx9
      go_wp2_with fail
      refine hK.out _ _ ⟨hb3, bkeep hb3 k0 hltV, bkeep hb3 k1 hltV⟩ (fun hHeld => ?_)
      clear hK K
      (try simp only [Act.put, List.setIfInBounds_toArray, List.set_cons_zero, List.set_cons_succ])
      refine wpAnyH_ready (rs := [8]) (by kernel_rfl) (by simp) ?_
      refine AllReadyH.cons (o := ⟨some 11, _, _, _, _, _⟩) rfl (fun K hK => ?_) AllReadyH.nil
      refine step_append_cells rfl (.tmp 6) (.tmp 10) 27 rfl V.heap.size 5 i0 (.int .u8 0) 1 1 Try.underlying27 hi hz0 hz1 hz2 rfl (by decide) v83 xa.length (flatU xa) rfl HO3.out _ A9 xb.length c9 (flatU xb) rfl HX7.out (flatU_one _) (by unfold maxLen; omega) (by omega) hHeld.1.size ?_
      intro v5 w5 hown5 ht5 hb5
      have hb3 := hHeld.1.trans (ht5.below (B := V.heap.size) hHeld.1.size (fun k hk => (HO3.out.lt k hk).1))
      have HO5 := Lib.hid hown5
      clear hown5
      refine hK.out _ _ ⟨hb3, bkeep hb3 k0 hltV, bkeep hb3 k1 hltV⟩ (fun hHeld => ?_)
      clear hK K
      (try simp only [Act.put, List.setIfInBounds_toArray, List.set_cons_zero, List.set_cons_succ])
      refine wpAnyH_take (i := 9) (oi := ⟨some 2, _, _, _, _, _⟩) (v := ?v9_73) rfl (by kernel_rfl) (by kernel_rfl) (by kernel_rfl) (fun _ _ _ h => h) (Or.inl ⟨by rfl, ?y9_73⟩) (by assumption) ?r9_73
      case y9_73 => (intro w hSw; (try dsimp only at hSw); (try go_split_ands); go_simp); (try with_reducible rfl)
      case r9_73 =>
      (try simp only [Act.put, List.setIfInBounds_toArray, List.set_cons_zero, List.set_cons_succ])
      refine wpAnyH_done (by kernel_rfl) ?_ _
      go_wp2_with fail
      refine bodyPost_ret (v := v5) (by simp [results, Try.results24, go_sem, ↓IntWalk.iteOmega, *]) rfl ⟨_, rfl, ?_, hB0.trans (hHeld.1.mono hB0.size)⟩
      have h5 := HO5.out.mono hB0.size
      rw [← flatU_app, ← List.length_append] at h5
      rw [HE.out, ← HXA.out, ← HXB.out]
      exact h5
    · go_simp
      have hb3 := hHeld.1.trans ((bw_below _ 5 aw).mono hHeld.1.size)
      have HCn := bwc hb3
      have hq8 := bwb hb3
      have HC2 := Lib.hid (fun g c hg => cells_keep (HC2.out g c hg) hq8 hq8.size)
      have HC6 := HCn
      clear HCn
      refine hK.out _ _ ⟨hb3, bkeep hb3 k0 hltV, bkeep hb3 k1 hltV⟩ (fun hHeld => ?_)
      clear hK K
      (try simp only [Act.put, List.setIfInBounds_toArray, List.set_cons_zero, List.set_cons_succ])
      refine wpAnyH_ready (rs := [3]) (by kernel_rfl) (by simp) ?_
      refine AllReadyH.cons (o := ⟨some 6, _, _, _, _, _⟩) rfl (fun K hK => ?_) AllReadyH.nil
      go_simp
      refine (refBytes _ _ ak.size (bs ak) _ (bs_length _) (by omega) (fun c => HC2.out _ c (by simp))).mono ?_
      rintro z w8 ⟨v83, rfl, hown8, hb8⟩
      rw [← HXA.out] at hown8
      have hb3 := hHeld.1.trans (hb8.mono hHeld.1.size)
      have HC6 := Lib.hid (fun g c hg => cells_keep (HC6.out g c hg) hb8 hb8.size)
      have HO3 := Lib.hid (hown8.mono hHeld.1.size)
      clear hown8
      go_wp2_with fail
      refine hK.out _ _ ⟨hb3, bkeep hb3 k0 hltV, bkeep hb3 k1 hltV⟩ (fun hHeld => ?_)
      clear hK K
      (try simp only [Act.put, List.setIfInBounds_toArray, List.set_cons_zero, List.set_cons_succ])
      refine wpAnyH_ready (rs := [7]) (by kernel_rfl) (by simp) ?_
      refine AllReadyH.cons (o := ⟨some 10, _, _, _, _, _⟩) rfl (fun K hK => ?_) AllReadyH.nil
      go_simp
      refine (refBytes _ _ aw.size (bs aw) _ (bs_length _) (by omega) (fun c => HC6.out _ c (by simp))).mono ?_
      rintro z w8 ⟨v87, rfl, hown8, hb8⟩
      rw [← HXB.out] at hown8
      have hb3 := hHeld.1.trans (hb8.mono hHeld.1.size)
      have HO3 := Lib.hid (row_below HO3.out hb8)
      obtain ⟨A9, c9, rfl, hc9, hm9, hx9⟩ := row_cells hown8
      have HX7 := Lib.hid hx9
      clear hown8 hx9
      go_wp2_with fail
      refine hK.out _ _ ⟨hb3, bkeep hb3 k0 hltV, bkeep hb3 k1 hltV⟩ (fun hHeld => ?_)
      clear hK K
      (try simp only [Act.put, List.setIfInBounds_toArray, List.set_cons_zero, List.set_cons_succ])
      refine wpAnyH_ready (rs := [8]) (by kernel_rfl) (by simp) ?_
      refine AllReadyH.cons (o := ⟨some 11, _, _, _, _, _⟩) rfl (fun K hK => ?_) AllReadyH.nil
      refine step_append_cells rfl (.tmp 6) (.tmp 10) 27 rfl V.heap.size 5 i0 (.int .u8 0) 1 1 Try.underlying27 hi hz0 hz1 hz2 rfl (by decide) v83 xa.length (flatU xa) rfl HO3.out _ A9 xb.length c9 (flatU xb) rfl HX7.out (flatU_one _) (by unfold maxLen; omega) (by omega) hHeld.1.size ?_
      intro v5 w5 hown5 ht5 hb5
      have hb3 := hHeld.1.trans (ht5.below (B := V.heap.size) hHeld.1.size (fun k hk => (HO3.out.lt k hk).1))
      have HO5 := Lib.hid hown5
      clear hown5
      refine hK.out _ _ ⟨hb3, bkeep hb3 k0 hltV, bkeep hb3 k1 hltV⟩ (fun hHeld => ?_)
      clear hK K
      (try simp only [Act.put, List.setIfInBounds_toArray, List.set_cons_zero, List.set_cons_succ])
      refine wpAnyH_take (i := 9) (oi := ⟨some 2, _, _, _, _, _⟩) (v := ?v9_132) rfl (by kernel_rfl) (by kernel_rfl) (by kernel_rfl) (fun _ _ _ h => h) (Or.inl ⟨by rfl, ?y9_132⟩) (by assumption) ?r9_132
      case y9_132 => (intro w hSw; (try dsimp only at hSw); (try go_split_ands); go_simp); (try with_reducible rfl)
      case r9_132 =>
      (try simp only [Act.put, List.setIfInBounds_toArray, List.set_cons_zero, List.set_cons_succ])
      refine wpAnyH_done (by kernel_rfl) ?_ _
      go_wp2_with fail
      refine bodyPost_ret (v := v5) (by simp [results, Try.results24, go_sem, ↓IntWalk.iteOmega, *]) rfl ⟨_, rfl, ?_, hB0.trans (hHeld.1.mono hB0.size)⟩
      have h5 := HO5.out.mono hB0.size
      rw [← flatU_app, ← List.length_append] at h5
      rw [HE.out, ← HXA.out, ← HXB.out]
      exact h5
  · go_simp
    have hb3 := hHeld.1.trans ((bw_below _ 5 aw).mono hHeld.1.size)
    have HCn := bwc hb3
    have HC6 := HCn
    clear HCn
    refine hK.out _ _ ⟨hb3, bkeep hb3 k0 hltV, bkeep hb3 k1 hltV⟩ (fun hHeld => ?_)
    clear hK K
    (try simp only [Act.put, List.setIfInBounds_toArray, List.set_cons_zero, List.set_cons_succ])
    refine wpAnyH_ready (rs := [2]) (by kernel_rfl) (by simp) ?_
    refine AllReadyH.cons (o := ⟨some 5, _, _, _, _, _⟩) rfl (fun K hK => ?_) AllReadyH.nil
    go_simp
    have hb3 := hHeld.1.trans ((bw_below _ 5 ak).mono hHeld.1.size)
    have HCn := bwc hb3
    have hq8 := bwb hb3
    have HC6 := Lib.hid (fun g c hg => cells_keep (HC6.out g c hg) hq8 hq8.size)
    have HC2 := HCn
    clear HCn
    refine hK.out _ _ ⟨hb3, bkeep hb3 k0 hltV, bkeep hb3 k1 hltV⟩ (fun hHeld => ?_)
    clear hK K
    (try simp only [Act.put, List.setIfInBounds_toArray, List.set_cons_zero, List.set_cons_succ])
    refine wpAnyH_ready (rs := [3]) (by kernel_rfl) (by simp) ?_
    refine AllReadyH.cons (o := ⟨some 6, _, _, _, _, _⟩) rfl (fun K hK => ?_) AllReadyH.nil
    go_simp
    refine (refBytes _ _ ak.size (bs ak) _ (bs_length _) (by omega) (fun c => HC2.out _ c (by simp))).mono ?_
    rintro z w8 ⟨v83, rfl, hown8, hb8⟩
    rw [← HXA.out] at hown8
    have hb3 := hHeld.1.trans (hb8.mono hHeld.1.size)
    have HC6 := Lib.hid (fun g c hg => cells_keep (HC6.out g c hg) hb8 hb8.size)
    have HO3 := Lib.hid (hown8.mono hHeld.1.size)
    clear hown8
    go_wp2_with fail
    refine hK.out _ _ ⟨hb3, bkeep hb3 k0 hltV, bkeep hb3 k1 hltV⟩ (fun hHeld => ?_)
    clear hK K
    (try simp only [Act.put, List.setIfInBounds_toArray, List.set_cons_zero, List.set_cons_succ])
    refine wpAnyH_ready (rs := [7]) (by kernel_rfl) (by simp) ?_
    refine AllReadyH.cons (o := ⟨some 10, _, _, _, _, _⟩) rfl (fun K hK => ?_) AllReadyH.nil
    go_simp
    refine (refBytes _ _ aw.size (bs aw) _ (bs_length _) (by omega) (fun c => HC6.out _ c (by simp))).mono ?_
    rintro z w8 ⟨v87, rfl, hown8, hb8⟩
    rw [← HXB.out] at hown8
    have hb3 := hHeld.1.trans (hb8.mono hHeld.1.size)
    have HO3 := Lib.hid (row_below HO3.out hb8)
    obtain ⟨A9, c9, rfl, hc9, hm9, hx9⟩ := row_cells hown8
    have HX7 := Lib.hid hx9
    clear hown8 hx9
    go_wp2_with fail
    refine hK.out _ _ ⟨hb3, bkeep hb3 k0 hltV, bkeep hb3 k1 hltV⟩ (fun hHeld => ?_)
    clear hK K
    (try simp only [Act.put, List.setIfInBounds_toArray, List.set_cons_zero, List.set_cons_succ])
    refine wpAnyH_ready (rs := [8]) (by kernel_rfl) (by simp) ?_
    refine AllReadyH.cons (o := ⟨some 11, _, _, _, _, _⟩) rfl (fun K hK => ?_) AllReadyH.nil
    refine step_append_cells rfl (.tmp 6) (.tmp 10) 27 rfl V.heap.size 5 i0 (.int .u8 0) 1 1 Try.underlying27 hi hz0 hz1 hz2 rfl (by decide) v83 xa.length (flatU xa) rfl HO3.out _ A9 xb.length c9 (flatU xb) rfl HX7.out (flatU_one _) (by unfold maxLen; omega) (by omega) hHeld.1.size ?_
    intro v5 w5 hown5 ht5 hb5
    have hb3 := hHeld.1.trans (ht5.below (B := V.heap.size) hHeld.1.size (fun k hk => (HO3.out.lt k hk).1))
    have HO5 := Lib.hid hown5
    clear hown5
    refine hK.out _ _ ⟨hb3, bkeep hb3 k0 hltV, bkeep hb3 k1 hltV⟩ (fun hHeld => ?_)
    clear hK K
    (try simp only [Act.put, List.setIfInBounds_toArray, List.set_cons_zero, List.set_cons_succ])
    refine wpAnyH_take (i := 9) (oi := ⟨some 2, _, _, _, _, _⟩) (v := ?v9_201) rfl (by kernel_rfl) (by kernel_rfl) (by kernel_rfl) (fun _ _ _ h => h) (Or.inl ⟨by rfl, ?y9_201⟩) (by assumption) ?r9_201
    case y9_201 => (intro w hSw; (try dsimp only at hSw); (try go_split_ands); go_simp); (try with_reducible rfl)
    case r9_201 =>
    (try simp only [Act.put, List.setIfInBounds_toArray, List.set_cons_zero, List.set_cons_succ])
    refine wpAnyH_done (by kernel_rfl) ?_ _
    go_wp2_with fail
    refine bodyPost_ret (v := v5) (by simp [results, Try.results24, go_sem, ↓IntWalk.iteOmega, *]) rfl ⟨_, rfl, ?_, hB0.trans (hHeld.1.mono hB0.size)⟩
    have h5 := HO5.out.mono hB0.size
    rw [← flatU_app, ← List.length_append] at h5
    rw [HE.out, ← HXA.out, ← HXB.out]
    exact h5
end Go.Proofs.Ytblknjclkecglaa
