/- The document's book: an order goes. -/
import Derived.Test.YtdlbiobjnohfbaaGreatVb27
namespace Go.Proofs.YtdlbiobjnohfbaaGreat
open Go.RowKit
set_option linter.unusedVariables false
set_option linter.unusedSimpArgs false
theorem cells_take {w : World} {B g N c k size : Nat} {xs : List Value} (h : Cells w B (some ⟨g, 0, none⟩) N c size xs) (hk : k ≤ N) : Cells w B (some ⟨g, 0, none⟩) k c size (xs.take (k * size)) := by
 have hm := Nat.mul_le_mul_right size hk
 refine ⟨by rw [List.length_take, h.1]; omega, (fun e => by cases e), fun j u hu => ?_⟩
 rw [List.getElem?_take] at hu
 split at hu
 · exact h.2.2 j u hu
 · cases hu
theorem cells_drop {w : World} {B g N c k size : Nat} {xs : List Value} (h : Cells w B (some ⟨g, 0, none⟩) N c size xs) (hk : k ≤ N) (c' : Nat) : Cells w B (some ⟨g, k * size, none⟩) (N - k) c' size (xs.drop (k * size)) := by
 have hm := Nat.mul_le_mul_right size hk
 refine ⟨by rw [List.length_drop, h.1, Nat.sub_mul], (fun e => by cases e), fun j u hu => ?_⟩
 rw [List.getElem?_drop] at hu
 obtain ⟨b, o, e, hb, hc⟩ := h.2.2 _ u hu
 injection e with e
 injection e with e1 e2
 subst e1 e2
 exact ⟨_, _, rfl, hb, by rw [Nat.zero_add] at hc; exact hc⟩
theorem cells_none {w : World} {B g c size : Nat} : Cells w B (some ⟨g, 0, none⟩) 0 c size [] := ⟨by simp, (fun e => by cases e), fun j u hu => by simp at hu⟩
theorem flatO_drop (l : List Od) (n : Nat) : flatO (l.drop n) = (flatO l).drop (n * 6) := by
 induction l generalizing n with
 | nil => simp [flatO]
 | cons a r ih =>
  cases n with
  | zero => simp [flatO]
  | succ n =>
   have e : (n + 1) * 6 = n * 6 + 6 := by omega
   have h2 : flatO (a :: r) = odV a ++ flatO r := rfl
   rw [List.drop_succ_cons, h2, ih, e]
   simp [odV]
theorem erase_td (l : List Od) (n : Nat) : l.eraseIdx n = l.take n ++ l.drop (n + 1) := List.eraseIdx_eq_take_drop_succ l n
theorem own_baseO {w : World} {base base' e size n : Nat} {v : Value} {xs : List Value} (h : w.ownsRow base e size v n xs) (hb : base' ≤ base) : w.ownsRow base' e size v n xs := by
 refine ⟨h.1, ?_⟩
 rcases h.2 with h0 | ⟨g, cap, cur, hv, hg, hh⟩
 · exact .inl h0
 · exact .inr ⟨g, cap, cur, hv, by omega, hh⟩
theorem outEnd {w w6 : World} {B x i m : Nat} {v6 : Value} {L : List Od} {last : Int} {u : Value} (hbk : Whl w x 68 #[u, .int .i64 last]) (hxl : x < w.heap.size) (hb : Below w.heap.size w w6) (ho : w6.ownsRow w.heap.size 38 6 v6 m (flatO (L.take i) ++ flatO (L.drop (i + 1)))) (hm : m = i + (L.length - (i + 1))) (hi : i < L.length) (hB : B ≤ w.heap.size) (hBx : B ≤ x) :
  RfB (w6.setCell ⟨x, 0, none⟩ v6) B x v6 (L.eraseIdx i) last ∧ Touch (fun k => k = x) w (w6.setCell ⟨x, 0, none⟩ v6) ∧ (∀ g, v6.ownBlock = some g → w.heap.size ≤ g) := by
 have hlen : (L.eraseIdx i).length = m := by rw [List.length_eraseIdx_of_lt hi]; omega
 have hf : flatO (L.take i) ++ flatO (L.drop (i + 1)) = flatO (L.eraseIdx i) := by rw [← flatO_app, ← erase_td]
 rw [hf, ← hlen] at ho
 refine ⟨⟨(hbk.below hb hxl).set 0 v6, own_baseO (own_set_ne ho (fun g hg => ?_)) hB, fun g hg => ?_, hBx⟩, ((Touch.of_below hb).mono'' (fun k hk hd => by omega)).set (fun _ => rfl), fun g hg => (ho.lt g hg).1⟩
 · have := (ho.lt g hg).1; show g ≠ x; omega
 · have := (ho.lt g hg).1; omega
set_option maxHeartbeats 8000000 in
set_option maxRecDepth 10000 in
theorem refOut (B x : Nat) (u : Value) (L : List Od) (last : Int) (i : Nat) (w : World) (h : RfB w B x u L last) (hi : i < L.length) (hl : L.length ≤ 1000) :
  Calls Tryz.prog 90 #[.pointer (some ⟨x, 0, none⟩), .int .i64 i] w fun e w' => ∃ u', e = .returned (.tuple #[]) ∧ RfB w' B x u' (L.eraseIdx i) last ∧ Touch (fun k => k = x) w w' ∧ (∀ g, u'.ownBlock = some g → w.heap.size ≤ g) := by
 have hx0 := (h.blk.cell 0).trans (show (#[u, Value.int .i64 last] : Array Value)[0]? = some u from rfl)
 obtain ⟨gu, c, rfl, _, hgu, hnc, hcm⟩ := own_form h.row (by omega)
 have hxl := h.blk.low
 have hBx := h.low
 have hBl : B ≤ w.heap.size := by omega
 have HBK := Lib.hid h.blk
 obtain ⟨A0, c0, e0, _, _, hC⟩ := row_cells h.row
 injection e0 with e1 e2 e3
 subst e1 e3
 have hCT := cells_take hC (k := i) (by omega)
 rw [← flatO_take] at hCT
 have HCT := Lib.hid hCT
 obtain ⟨i0, hi0, hz0, hz1, hz2⟩ := info_parts Tryz.infoOrder
 have q5 : (i : Int) < (L.length : Int) := by omega
 have HB1 : Hid (Below w.heap.size w w.drew) := Lib.hid (Below.refl _ _).drew
 have hw1 : IntKind.i64.wrap ((i : Int) + 1) = i + 1 := by rw [IntKind.wrap_i64]; omega
 clear h hCT
 by_cases hfull : i + 1 = c
 ·
  have hCD := cells_none (w := w) (B := w.heap.size) (g := gu) (c := 0) (size := 6)
  have e1 : L.length = i + 1 := by omega
  have e2 : flatO (L.drop (i + 1)) = [] := by rw [← e1, List.drop_length]; rfl
  rw [← e2] at hCD
  have HCD := Lib.hid hCD
  clear hCD e2 hC
  go_enter Tryz.func90, Tryz.ntmps90
  go_wp2_with fail
  refine wp_region_held_drew (S := (fun _ => True)) (by kernel_rfl) trivial (fun hHeld => ?_)
  refine tkY 0 (some 4) ?v0f_1 rfl ?y0f_1 ?r0f_1
  case y0f_1 => exact tY
  case r0f_1 =>
  try simp only [q1,q2,q3,q4,q5]
  refine tkY 2 (some 6) ?v2f_4 rfl ?y2f_4 ?r2f_4
  case y2f_4 => exact tY
  case r2f_4 =>
  try simp only [q1,q2,q3,q4,q5]
  refine tkY 3 (some 7) ?v3f_7 rfl ?y3f_7 ?r3f_7
  case y3f_7 => exact tY
  case r3f_7 =>
  try simp only [q1,q2,q3,q4,q5]
  refine tkY 4 (some 8) ?v4f_10 rfl ?y4f_10 ?r4f_10
  case y4f_10 => exact tY
  case r4f_10 =>
  try simp only [q1,q2,q3,q4,q5]
  refine tkY 6 (some 10) ?v6f_13 rfl ?y6f_13 ?r6f_13
  case y6f_13 => exact tY
  case r6f_13 =>
  try simp only [q1,q2,q3,q4,q5]
  refine tkY 9 (some 13) ?v9f_16 rfl ?y9f_16 ?r9f_16
  case y9f_16 => exact tY
  case r9f_16 =>
  try simp only [q1,q2,q3,q4,q5]
  refine tkY 10 (some 14) ?v10f_19 rfl ?y10f_19 ?r10f_19
  case y10f_19 => exact tY
  case r10f_19 =>
  try simp only [q1,q2,q3,q4,q5]
  refine tkY 11 (some 15) ?v11f_22 rfl ?y11f_22 ?r11f_22
  case y11f_22 => exact tY
  case r11f_22 =>
  try simp only [q1,q2,q3,q4,q5]
  refine tkY 13 (some 17) ?v13f_25 rfl ?y13f_25 ?r13f_25
  case y13f_25 => exact tY
  case r13f_25 =>
  try simp only [q1,q2,q3,q4,q5]
  refine tkY 14 (some 18) (.int .i64 ((i : Int) + 1)) rfl ?y14f_28 ?r14f_28
  case y14f_28 => (intro w hSw; (try dsimp only at hSw); (try go_split_ands); go_simp; (try exact hw1))
  case r14f_28 =>
  try simp only [q1,q2,q3,q4,q5]
  refine wpAnyH_ready (rs := [1, 5, 12]) (by kernel_rfl) (by simp) ?_
  refine AllReadyH.cons (o := ⟨some 5, _, _, _, _, _⟩) rfl (fun K hK => ?_) (AllReadyH.cons (o := ⟨some 9, _, _, _, _, _⟩) rfl (fun K hK => ?_) (AllReadyH.cons (o := ⟨some 16, _, _, _, _, _⟩) rfl (fun K hK => ?_) AllReadyH.nil))
  ·
   go_simp
   replace HB1 : Hid (Below w.heap.size w ((w.alloc (.cells #[] 38)).drew)) := Lib.hid ((Below.refl _ _).alloc (Nat.le_refl _) _).drew
   have HLIT : Hid (((w.alloc (.cells #[] 38)).drew).ownsRow w.heap.size 38 6 (.slice (some ⟨w.heap.size, 0, none⟩) 0 0) 0 []) := Lib.hid (owns_lit0 rfl (Nat.le_refl _))
   have hs1 : w.heap.size < ((w.alloc (.cells #[] 38)).drew).heap.size := by simp
   have HSZ := Lib.hid hs1
   clear hs1
   generalize (w.alloc (.cells #[] 38)).drew = w1 at *
   refine hK.out _ _ trivial (fun hHeld => ?_)
   clear hK K
   try simp only [q1,q2,q3,q4,q5]
   refine wpAnyH_ready (rs := [5, 12]) (by kernel_rfl) (by simp) ?_
   refine AllReadyH.cons (o := ⟨some 9, _, _, _, _, _⟩) rfl (fun K hK => ?_) (AllReadyH.cons (o := ⟨some 16, _, _, _, _, _⟩) rfl (fun K hK => ?_) AllReadyH.nil)
   ·
    have kx := bkeep HB1.out hx0 hxl
    go_simp
    refine hK.out _ _ trivial (fun hHeld => ?_)
    clear hK K
    try simp only [q1,q2,q3,q4,q5]
    refine tkY 7 (some 11) (.slice (some ⟨gu, 0, none⟩) i c) rfl ?y7f_50 ?r7f_50
    case y7f_50 => (intro w hSw; (try dsimp only at hSw); (try go_split_ands); go_simp; (try (intro hh; exfalso; omega)))
    case r7f_50 =>
    try simp only [q1,q2,q3,q4,q5]
    refine wpAnyH_ready (rs := [8, 12]) (by kernel_rfl) (by simp) ?_
    refine AllReadyH.cons (o := ⟨some 12, _, _, _, _, _⟩) rfl (fun K hK => ?_) (AllReadyH.cons (o := ⟨some 16, _, _, _, _, _⟩) rfl (fun K hK => ?_) AllReadyH.nil)
    ·
     have hs1 := HSZ.out
     have hCT := cells_keep HCT.out HB1.out (Nat.le_refl _)
     refine step_append_cells rfl (.tmp 5) (.tmp 11) 57 rfl w.heap.size 38 i0 (.agg #[.int .i64 0, .string ⟨#[]⟩, .bool false, .int .i64 0, .int .i64 0, .int .i64 0]) 6 56 Tryz.underlying57 hi0 hz0 hz1 hz2 rfl (by decide) (.slice (some ⟨w.heap.size, 0, none⟩) 0 0) 0 [] rfl HLIT.out w.heap.size (some ⟨gu, 0, none⟩) i c (flatO (L.take i)) rfl hCT (flatO_one _) (by unfold maxLen; omega) (by omega) (by omega) ?_
     intro v5 w5 hown5 ht5 hb5
     rw [Nat.zero_add, List.nil_append] at hown5
     replace HB1 := Lib.hid (HB1.out.trans (ht5.below (B := w.heap.size) (by omega) (by intro k hk; simp [Value.ownBlock] at hk; omega)))
     have hs5 := ht5.size
     have HO5 := Lib.hid hown5
     clear hown5 hb5 hCT
     refine hK.out _ _ trivial (fun hHeld => ?_)
     clear hK K
     try simp only [q1,q2,q3,q4,q5]
     refine wpAnyH_ready (rs := [12]) (by kernel_rfl) (by simp) ?_
     refine AllReadyH.cons (o := ⟨some 16, _, _, _, _, _⟩) rfl (fun K hK => ?_) AllReadyH.nil
     have kx := bkeep HB1.out hx0 hxl
     go_simp
     refine hK.out _ _ trivial (fun hHeld => ?_)
     clear hK K
     try simp only [q1,q2,q3,q4,q5]
     refine tkY 15 (some 19) (.slice (some ⟨gu, 0, none⟩) 0 0) rfl ?y15f_74 ?r15f_74
     case y15f_74 => (intro w hSw; (try dsimp only at hSw); (try go_split_ands); go_simp; (first | (intro hh; exfalso; omega) | (rw [if_pos ⟨by omega, by omega⟩, if_neg (by omega)])))
     case r15f_74 =>
     try simp only [q1,q2,q3,q4,q5]
     refine wpAnyH_ready (rs := [16]) (by kernel_rfl) (by simp) ?_
     refine AllReadyH.cons (o := ⟨some 20, _, _, _, _, _⟩) rfl (fun K hK => ?_) AllReadyH.nil
     have hs1 := HSZ.out
     have hCD := cells_keep HCD.out HB1.out (Nat.le_refl _)
     refine step_append_cells rfl (.tmp 12) (.tmp 19) 57 rfl w.heap.size 38 i0 (.agg #[.int .i64 0, .string ⟨#[]⟩, .bool false, .int .i64 0, .int .i64 0, .int .i64 0]) 6 56 Tryz.underlying57 hi0 hz0 hz1 hz2 rfl (by decide) v5 i (flatO (L.take i)) rfl HO5.out w.heap.size (some ⟨gu, 0, none⟩) 0 0 (flatO (L.drop (i + 1))) rfl hCD (flatO_one _) (by unfold maxLen; omega) (by omega) (by omega) ?_
     intro v6 w6 hown6 ht6 hb6
     replace HB1 := Lib.hid (HB1.out.trans (ht6.below (B := w.heap.size) (by omega) (fun k hk => (HO5.out.lt k hk).1)))
     have hs6 := ht6.size
     have HO6 := Lib.hid hown6
     clear hown6 hb6 hCD
     refine hK.out _ _ trivial (fun hHeld => ?_)
     clear hK K
     try simp only [q1,q2,q3,q4,q5]
     refine tkY 17 (some 21) ?v17f_90 rfl ?y17f_90 ?r17f_90
     case y17f_90 => exact tY
     case r17f_90 =>
     try simp only [q1,q2,q3,q4,q5]
     refine tkY 18 (some 22) ?v18f_93 rfl ?y18f_93 ?r18f_93
     case y18f_93 => exact tY
     case r18f_93 =>
     try simp only [q1,q2,q3,q4,q5]
     refine wpAnyH_ready (rs := [19]) (by kernel_rfl) (by simp) ?_
     refine AllReadyH.cons (o := ⟨none, _, _, _, _, _⟩) rfl (fun K hK => ?_) AllReadyH.nil
     have k6 := bkeep HB1.out hx0 hxl
     have f6 := (HBK.out.below HB1.out hxl).free 0
     obtain ⟨A6, c6, hv6, _, _, _⟩ := own_slice HO6.out
     subst hv6
     go_simp
     refine hK.out _ _ trivial (fun hHeld => ?_)
     clear hK K
     try simp only [q1,q2,q3,q4,q5]
     refine wpAnyH_done (by kernel_rfl) ?_ _
     go_wp2_with fail
     refine bodyPost_end (v := .tuple #[]) (by simp [results, Tryz.results90, go_sem]) rfl ⟨_, rfl, outEnd HBK.out hxl HB1.out HO6.out (by omega) hi hBl hBx⟩
    ·
     have kx := bkeep HB1.out hx0 hxl
     go_simp
     refine hK.out _ _ trivial (fun hHeld => ?_)
     clear hK K
     try simp only [q1,q2,q3,q4,q5]
     refine tkY 15 (some 19) (.slice (some ⟨gu, 0, none⟩) 0 0) rfl ?y15f_114 ?r15f_114
     case y15f_114 => (intro w hSw; (try dsimp only at hSw); (try go_split_ands); go_simp; (first | (intro hh; exfalso; omega) | (rw [if_pos ⟨by omega, by omega⟩, if_neg (by omega)])))
     case r15f_114 =>
     try simp only [q1,q2,q3,q4,q5]
     refine wpAnyH_ready (rs := [8]) (by kernel_rfl) (by simp) ?_
     refine AllReadyH.cons (o := ⟨some 12, _, _, _, _, _⟩) rfl (fun K hK => ?_) AllReadyH.nil
     have hs1 := HSZ.out
     have hCT := cells_keep HCT.out HB1.out (Nat.le_refl _)
     refine step_append_cells rfl (.tmp 5) (.tmp 11) 57 rfl w.heap.size 38 i0 (.agg #[.int .i64 0, .string ⟨#[]⟩, .bool false, .int .i64 0, .int .i64 0, .int .i64 0]) 6 56 Tryz.underlying57 hi0 hz0 hz1 hz2 rfl (by decide) (.slice (some ⟨w.heap.size, 0, none⟩) 0 0) 0 [] rfl HLIT.out w.heap.size (some ⟨gu, 0, none⟩) i c (flatO (L.take i)) rfl hCT (flatO_one _) (by unfold maxLen; omega) (by omega) (by omega) ?_
     intro v5 w5 hown5 ht5 hb5
     rw [Nat.zero_add, List.nil_append] at hown5
     replace HB1 := Lib.hid (HB1.out.trans (ht5.below (B := w.heap.size) (by omega) (by intro k hk; simp [Value.ownBlock] at hk; omega)))
     have hs5 := ht5.size
     have HO5 := Lib.hid hown5
     clear hown5 hb5 hCT
     refine hK.out _ _ trivial (fun hHeld => ?_)
     clear hK K
     try simp only [q1,q2,q3,q4,q5]
     refine wpAnyH_ready (rs := [16]) (by kernel_rfl) (by simp) ?_
     refine AllReadyH.cons (o := ⟨some 20, _, _, _, _, _⟩) rfl (fun K hK => ?_) AllReadyH.nil
     have hs1 := HSZ.out
     have hCD := cells_keep HCD.out HB1.out (Nat.le_refl _)
     refine step_append_cells rfl (.tmp 12) (.tmp 19) 57 rfl w.heap.size 38 i0 (.agg #[.int .i64 0, .string ⟨#[]⟩, .bool false, .int .i64 0, .int .i64 0, .int .i64 0]) 6 56 Tryz.underlying57 hi0 hz0 hz1 hz2 rfl (by decide) v5 i (flatO (L.take i)) rfl HO5.out w.heap.size (some ⟨gu, 0, none⟩) 0 0 (flatO (L.drop (i + 1))) rfl hCD (flatO_one _) (by unfold maxLen; omega) (by omega) (by omega) ?_
     intro v6 w6 hown6 ht6 hb6
     replace HB1 := Lib.hid (HB1.out.trans (ht6.below (B := w.heap.size) (by omega) (fun k hk => (HO5.out.lt k hk).1)))
     have hs6 := ht6.size
     have HO6 := Lib.hid hown6
     clear hown6 hb6 hCD
     refine hK.out _ _ trivial (fun hHeld => ?_)
     clear hK K
     try simp only [q1,q2,q3,q4,q5]
     refine tkY 17 (some 21) ?v17f_144 rfl ?y17f_144 ?r17f_144
     case y17f_144 => exact tY
     case r17f_144 =>
     try simp only [q1,q2,q3,q4,q5]
     refine tkY 18 (some 22) ?v18f_147 rfl ?y18f_147 ?r18f_147
     case y18f_147 => exact tY
     case r18f_147 =>
     try simp only [q1,q2,q3,q4,q5]
     refine wpAnyH_ready (rs := [19]) (by kernel_rfl) (by simp) ?_
     refine AllReadyH.cons (o := ⟨none, _, _, _, _, _⟩) rfl (fun K hK => ?_) AllReadyH.nil
     have k6 := bkeep HB1.out hx0 hxl
     have f6 := (HBK.out.below HB1.out hxl).free 0
     obtain ⟨A6, c6, hv6, _, _, _⟩ := own_slice HO6.out
     subst hv6
     go_simp
     refine hK.out _ _ trivial (fun hHeld => ?_)
     clear hK K
     try simp only [q1,q2,q3,q4,q5]
     refine wpAnyH_done (by kernel_rfl) ?_ _
     go_wp2_with fail
     refine bodyPost_end (v := .tuple #[]) (by simp [results, Tryz.results90, go_sem]) rfl ⟨_, rfl, outEnd HBK.out hxl HB1.out HO6.out (by omega) hi hBl hBx⟩
   ·
    have kx := bkeep HB1.out hx0 hxl
    go_simp
    refine hK.out _ _ trivial (fun hHeld => ?_)
    clear hK K
    try simp only [q1,q2,q3,q4,q5]
    refine tkY 15 (some 19) (.slice (some ⟨gu, 0, none⟩) 0 0) rfl ?y15f_168 ?r15f_168
    case y15f_168 => (intro w hSw; (try dsimp only at hSw); (try go_split_ands); go_simp; (first | (intro hh; exfalso; omega) | (rw [if_pos ⟨by omega, by omega⟩, if_neg (by omega)])))
    case r15f_168 =>
    try simp only [q1,q2,q3,q4,q5]
    refine wpAnyH_ready (rs := [5]) (by kernel_rfl) (by simp) ?_
    refine AllReadyH.cons (o := ⟨some 9, _, _, _, _, _⟩) rfl (fun K hK => ?_) AllReadyH.nil
    have kx := bkeep HB1.out hx0 hxl
    go_simp
    refine hK.out _ _ trivial (fun hHeld => ?_)
    clear hK K
    try simp only [q1,q2,q3,q4,q5]
    refine tkY 7 (some 11) (.slice (some ⟨gu, 0, none⟩) i c) rfl ?y7f_178 ?r7f_178
    case y7f_178 => (intro w hSw; (try dsimp only at hSw); (try go_split_ands); go_simp; (try (intro hh; exfalso; omega)))
    case r7f_178 =>
    try simp only [q1,q2,q3,q4,q5]
    refine wpAnyH_ready (rs := [8]) (by kernel_rfl) (by simp) ?_
    refine AllReadyH.cons (o := ⟨some 12, _, _, _, _, _⟩) rfl (fun K hK => ?_) AllReadyH.nil
    have hs1 := HSZ.out
    have hCT := cells_keep HCT.out HB1.out (Nat.le_refl _)
    refine step_append_cells rfl (.tmp 5) (.tmp 11) 57 rfl w.heap.size 38 i0 (.agg #[.int .i64 0, .string ⟨#[]⟩, .bool false, .int .i64 0, .int .i64 0, .int .i64 0]) 6 56 Tryz.underlying57 hi0 hz0 hz1 hz2 rfl (by decide) (.slice (some ⟨w.heap.size, 0, none⟩) 0 0) 0 [] rfl HLIT.out w.heap.size (some ⟨gu, 0, none⟩) i c (flatO (L.take i)) rfl hCT (flatO_one _) (by unfold maxLen; omega) (by omega) (by omega) ?_
    intro v5 w5 hown5 ht5 hb5
    rw [Nat.zero_add, List.nil_append] at hown5
    replace HB1 := Lib.hid (HB1.out.trans (ht5.below (B := w.heap.size) (by omega) (by intro k hk; simp [Value.ownBlock] at hk; omega)))
    have hs5 := ht5.size
    have HO5 := Lib.hid hown5
    clear hown5 hb5 hCT
    refine hK.out _ _ trivial (fun hHeld => ?_)
    clear hK K
    try simp only [q1,q2,q3,q4,q5]
    refine wpAnyH_ready (rs := [16]) (by kernel_rfl) (by simp) ?_
    refine AllReadyH.cons (o := ⟨some 20, _, _, _, _, _⟩) rfl (fun K hK => ?_) AllReadyH.nil
    have hs1 := HSZ.out
    have hCD := cells_keep HCD.out HB1.out (Nat.le_refl _)
    refine step_append_cells rfl (.tmp 12) (.tmp 19) 57 rfl w.heap.size 38 i0 (.agg #[.int .i64 0, .string ⟨#[]⟩, .bool false, .int .i64 0, .int .i64 0, .int .i64 0]) 6 56 Tryz.underlying57 hi0 hz0 hz1 hz2 rfl (by decide) v5 i (flatO (L.take i)) rfl HO5.out w.heap.size (some ⟨gu, 0, none⟩) 0 0 (flatO (L.drop (i + 1))) rfl hCD (flatO_one _) (by unfold maxLen; omega) (by omega) (by omega) ?_
    intro v6 w6 hown6 ht6 hb6
    replace HB1 := Lib.hid (HB1.out.trans (ht6.below (B := w.heap.size) (by omega) (fun k hk => (HO5.out.lt k hk).1)))
    have hs6 := ht6.size
    have HO6 := Lib.hid hown6
    clear hown6 hb6 hCD
    refine hK.out _ _ trivial (fun hHeld => ?_)
    clear hK K
    try simp only [q1,q2,q3,q4,q5]
    refine tkY 17 (some 21) ?v17f_208 rfl ?y17f_208 ?r17f_208
    case y17f_208 => exact tY
    case r17f_208 =>
    try simp only [q1,q2,q3,q4,q5]
    refine tkY 18 (some 22) ?v18f_211 rfl ?y18f_211 ?r18f_211
    case y18f_211 => exact tY
    case r18f_211 =>
    try simp only [q1,q2,q3,q4,q5]
    refine wpAnyH_ready (rs := [19]) (by kernel_rfl) (by simp) ?_
    refine AllReadyH.cons (o := ⟨none, _, _, _, _, _⟩) rfl (fun K hK => ?_) AllReadyH.nil
    have k6 := bkeep HB1.out hx0 hxl
    have f6 := (HBK.out.below HB1.out hxl).free 0
    obtain ⟨A6, c6, hv6, _, _, _⟩ := own_slice HO6.out
    subst hv6
    go_simp
    refine hK.out _ _ trivial (fun hHeld => ?_)
    clear hK K
    try simp only [q1,q2,q3,q4,q5]
    refine wpAnyH_done (by kernel_rfl) ?_ _
    go_wp2_with fail
    refine bodyPost_end (v := .tuple #[]) (by simp [results, Tryz.results90, go_sem]) rfl ⟨_, rfl, outEnd HBK.out hxl HB1.out HO6.out (by omega) hi hBl hBx⟩
  ·
   have kx := bkeep HB1.out hx0 hxl
   go_simp
   refine hK.out _ _ trivial (fun hHeld => ?_)
   clear hK K
   try simp only [q1,q2,q3,q4,q5]
   refine tkY 7 (some 11) (.slice (some ⟨gu, 0, none⟩) i c) rfl ?y7f_232 ?r7f_232
   case y7f_232 => (intro w hSw; (try dsimp only at hSw); (try go_split_ands); go_simp; (try (intro hh; exfalso; omega)))
   case r7f_232 =>
   try simp only [q1,q2,q3,q4,q5]
   refine wpAnyH_ready (rs := [1, 12]) (by kernel_rfl) (by simp) ?_
   refine AllReadyH.cons (o := ⟨some 5, _, _, _, _, _⟩) rfl (fun K hK => ?_) (AllReadyH.cons (o := ⟨some 16, _, _, _, _, _⟩) rfl (fun K hK => ?_) AllReadyH.nil)
   ·
    go_simp
    replace HB1 : Hid (Below w.heap.size w ((w.alloc (.cells #[] 38)).drew)) := Lib.hid ((Below.refl _ _).alloc (Nat.le_refl _) _).drew
    have HLIT : Hid (((w.alloc (.cells #[] 38)).drew).ownsRow w.heap.size 38 6 (.slice (some ⟨w.heap.size, 0, none⟩) 0 0) 0 []) := Lib.hid (owns_lit0 rfl (Nat.le_refl _))
    have hs1 : w.heap.size < ((w.alloc (.cells #[] 38)).drew).heap.size := by simp
    have HSZ := Lib.hid hs1
    clear hs1
    generalize (w.alloc (.cells #[] 38)).drew = w1 at *
    refine hK.out _ _ trivial (fun hHeld => ?_)
    clear hK K
    try simp only [q1,q2,q3,q4,q5]
    refine wpAnyH_ready (rs := [8, 12]) (by kernel_rfl) (by simp) ?_
    refine AllReadyH.cons (o := ⟨some 12, _, _, _, _, _⟩) rfl (fun K hK => ?_) (AllReadyH.cons (o := ⟨some 16, _, _, _, _, _⟩) rfl (fun K hK => ?_) AllReadyH.nil)
    ·
     have hs1 := HSZ.out
     have hCT := cells_keep HCT.out HB1.out (Nat.le_refl _)
     refine step_append_cells rfl (.tmp 5) (.tmp 11) 57 rfl w.heap.size 38 i0 (.agg #[.int .i64 0, .string ⟨#[]⟩, .bool false, .int .i64 0, .int .i64 0, .int .i64 0]) 6 56 Tryz.underlying57 hi0 hz0 hz1 hz2 rfl (by decide) (.slice (some ⟨w.heap.size, 0, none⟩) 0 0) 0 [] rfl HLIT.out w.heap.size (some ⟨gu, 0, none⟩) i c (flatO (L.take i)) rfl hCT (flatO_one _) (by unfold maxLen; omega) (by omega) (by omega) ?_
     intro v5 w5 hown5 ht5 hb5
     rw [Nat.zero_add, List.nil_append] at hown5
     replace HB1 := Lib.hid (HB1.out.trans (ht5.below (B := w.heap.size) (by omega) (by intro k hk; simp [Value.ownBlock] at hk; omega)))
     have hs5 := ht5.size
     have HO5 := Lib.hid hown5
     clear hown5 hb5 hCT
     refine hK.out _ _ trivial (fun hHeld => ?_)
     clear hK K
     try simp only [q1,q2,q3,q4,q5]
     refine wpAnyH_ready (rs := [12]) (by kernel_rfl) (by simp) ?_
     refine AllReadyH.cons (o := ⟨some 16, _, _, _, _, _⟩) rfl (fun K hK => ?_) AllReadyH.nil
     have kx := bkeep HB1.out hx0 hxl
     go_simp
     refine hK.out _ _ trivial (fun hHeld => ?_)
     clear hK K
     try simp only [q1,q2,q3,q4,q5]
     refine tkY 15 (some 19) (.slice (some ⟨gu, 0, none⟩) 0 0) rfl ?y15f_268 ?r15f_268
     case y15f_268 => (intro w hSw; (try dsimp only at hSw); (try go_split_ands); go_simp; (first | (intro hh; exfalso; omega) | (rw [if_pos ⟨by omega, by omega⟩, if_neg (by omega)])))
     case r15f_268 =>
     try simp only [q1,q2,q3,q4,q5]
     refine wpAnyH_ready (rs := [16]) (by kernel_rfl) (by simp) ?_
     refine AllReadyH.cons (o := ⟨some 20, _, _, _, _, _⟩) rfl (fun K hK => ?_) AllReadyH.nil
     have hs1 := HSZ.out
     have hCD := cells_keep HCD.out HB1.out (Nat.le_refl _)
     refine step_append_cells rfl (.tmp 12) (.tmp 19) 57 rfl w.heap.size 38 i0 (.agg #[.int .i64 0, .string ⟨#[]⟩, .bool false, .int .i64 0, .int .i64 0, .int .i64 0]) 6 56 Tryz.underlying57 hi0 hz0 hz1 hz2 rfl (by decide) v5 i (flatO (L.take i)) rfl HO5.out w.heap.size (some ⟨gu, 0, none⟩) 0 0 (flatO (L.drop (i + 1))) rfl hCD (flatO_one _) (by unfold maxLen; omega) (by omega) (by omega) ?_
     intro v6 w6 hown6 ht6 hb6
     replace HB1 := Lib.hid (HB1.out.trans (ht6.below (B := w.heap.size) (by omega) (fun k hk => (HO5.out.lt k hk).1)))
     have hs6 := ht6.size
     have HO6 := Lib.hid hown6
     clear hown6 hb6 hCD
     refine hK.out _ _ trivial (fun hHeld => ?_)
     clear hK K
     try simp only [q1,q2,q3,q4,q5]
     refine tkY 17 (some 21) ?v17f_284 rfl ?y17f_284 ?r17f_284
     case y17f_284 => exact tY
     case r17f_284 =>
     try simp only [q1,q2,q3,q4,q5]
     refine tkY 18 (some 22) ?v18f_287 rfl ?y18f_287 ?r18f_287
     case y18f_287 => exact tY
     case r18f_287 =>
     try simp only [q1,q2,q3,q4,q5]
     refine wpAnyH_ready (rs := [19]) (by kernel_rfl) (by simp) ?_
     refine AllReadyH.cons (o := ⟨none, _, _, _, _, _⟩) rfl (fun K hK => ?_) AllReadyH.nil
     have k6 := bkeep HB1.out hx0 hxl
     have f6 := (HBK.out.below HB1.out hxl).free 0
     obtain ⟨A6, c6, hv6, _, _, _⟩ := own_slice HO6.out
     subst hv6
     go_simp
     refine hK.out _ _ trivial (fun hHeld => ?_)
     clear hK K
     try simp only [q1,q2,q3,q4,q5]
     refine wpAnyH_done (by kernel_rfl) ?_ _
     go_wp2_with fail
     refine bodyPost_end (v := .tuple #[]) (by simp [results, Tryz.results90, go_sem]) rfl ⟨_, rfl, outEnd HBK.out hxl HB1.out HO6.out (by omega) hi hBl hBx⟩
    ·
     have kx := bkeep HB1.out hx0 hxl
     go_simp
     refine hK.out _ _ trivial (fun hHeld => ?_)
     clear hK K
     try simp only [q1,q2,q3,q4,q5]
     refine tkY 15 (some 19) (.slice (some ⟨gu, 0, none⟩) 0 0) rfl ?y15f_308 ?r15f_308
     case y15f_308 => (intro w hSw; (try dsimp only at hSw); (try go_split_ands); go_simp; (first | (intro hh; exfalso; omega) | (rw [if_pos ⟨by omega, by omega⟩, if_neg (by omega)])))
     case r15f_308 =>
     try simp only [q1,q2,q3,q4,q5]
     refine wpAnyH_ready (rs := [8]) (by kernel_rfl) (by simp) ?_
     refine AllReadyH.cons (o := ⟨some 12, _, _, _, _, _⟩) rfl (fun K hK => ?_) AllReadyH.nil
     have hs1 := HSZ.out
     have hCT := cells_keep HCT.out HB1.out (Nat.le_refl _)
     refine step_append_cells rfl (.tmp 5) (.tmp 11) 57 rfl w.heap.size 38 i0 (.agg #[.int .i64 0, .string ⟨#[]⟩, .bool false, .int .i64 0, .int .i64 0, .int .i64 0]) 6 56 Tryz.underlying57 hi0 hz0 hz1 hz2 rfl (by decide) (.slice (some ⟨w.heap.size, 0, none⟩) 0 0) 0 [] rfl HLIT.out w.heap.size (some ⟨gu, 0, none⟩) i c (flatO (L.take i)) rfl hCT (flatO_one _) (by unfold maxLen; omega) (by omega) (by omega) ?_
     intro v5 w5 hown5 ht5 hb5
     rw [Nat.zero_add, List.nil_append] at hown5
     replace HB1 := Lib.hid (HB1.out.trans (ht5.below (B := w.heap.size) (by omega) (by intro k hk; simp [Value.ownBlock] at hk; omega)))
     have hs5 := ht5.size
     have HO5 := Lib.hid hown5
     clear hown5 hb5 hCT
     refine hK.out _ _ trivial (fun hHeld => ?_)
     clear hK K
     try simp only [q1,q2,q3,q4,q5]
     refine wpAnyH_ready (rs := [16]) (by kernel_rfl) (by simp) ?_
     refine AllReadyH.cons (o := ⟨some 20, _, _, _, _, _⟩) rfl (fun K hK => ?_) AllReadyH.nil
     have hs1 := HSZ.out
     have hCD := cells_keep HCD.out HB1.out (Nat.le_refl _)
     refine step_append_cells rfl (.tmp 12) (.tmp 19) 57 rfl w.heap.size 38 i0 (.agg #[.int .i64 0, .string ⟨#[]⟩, .bool false, .int .i64 0, .int .i64 0, .int .i64 0]) 6 56 Tryz.underlying57 hi0 hz0 hz1 hz2 rfl (by decide) v5 i (flatO (L.take i)) rfl HO5.out w.heap.size (some ⟨gu, 0, none⟩) 0 0 (flatO (L.drop (i + 1))) rfl hCD (flatO_one _) (by unfold maxLen; omega) (by omega) (by omega) ?_
     intro v6 w6 hown6 ht6 hb6
     replace HB1 := Lib.hid (HB1.out.trans (ht6.below (B := w.heap.size) (by omega) (fun k hk => (HO5.out.lt k hk).1)))
     have hs6 := ht6.size
     have HO6 := Lib.hid hown6
     clear hown6 hb6 hCD
     refine hK.out _ _ trivial (fun hHeld => ?_)
     clear hK K
     try simp only [q1,q2,q3,q4,q5]
     refine tkY 17 (some 21) ?v17f_338 rfl ?y17f_338 ?r17f_338
     case y17f_338 => exact tY
     case r17f_338 =>
     try simp only [q1,q2,q3,q4,q5]
     refine tkY 18 (some 22) ?v18f_341 rfl ?y18f_341 ?r18f_341
     case y18f_341 => exact tY
     case r18f_341 =>
     try simp only [q1,q2,q3,q4,q5]
     refine wpAnyH_ready (rs := [19]) (by kernel_rfl) (by simp) ?_
     refine AllReadyH.cons (o := ⟨none, _, _, _, _, _⟩) rfl (fun K hK => ?_) AllReadyH.nil
     have k6 := bkeep HB1.out hx0 hxl
     have f6 := (HBK.out.below HB1.out hxl).free 0
     obtain ⟨A6, c6, hv6, _, _, _⟩ := own_slice HO6.out
     subst hv6
     go_simp
     refine hK.out _ _ trivial (fun hHeld => ?_)
     clear hK K
     try simp only [q1,q2,q3,q4,q5]
     refine wpAnyH_done (by kernel_rfl) ?_ _
     go_wp2_with fail
     refine bodyPost_end (v := .tuple #[]) (by simp [results, Tryz.results90, go_sem]) rfl ⟨_, rfl, outEnd HBK.out hxl HB1.out HO6.out (by omega) hi hBl hBx⟩
   ·
    have kx := bkeep HB1.out hx0 hxl
    go_simp
    refine hK.out _ _ trivial (fun hHeld => ?_)
    clear hK K
    try simp only [q1,q2,q3,q4,q5]
    refine tkY 15 (some 19) (.slice (some ⟨gu, 0, none⟩) 0 0) rfl ?y15f_362 ?r15f_362
    case y15f_362 => (intro w hSw; (try dsimp only at hSw); (try go_split_ands); go_simp; (first | (intro hh; exfalso; omega) | (rw [if_pos ⟨by omega, by omega⟩, if_neg (by omega)])))
    case r15f_362 =>
    try simp only [q1,q2,q3,q4,q5]
    refine wpAnyH_ready (rs := [1]) (by kernel_rfl) (by simp) ?_
    refine AllReadyH.cons (o := ⟨some 5, _, _, _, _, _⟩) rfl (fun K hK => ?_) AllReadyH.nil
    go_simp
    replace HB1 : Hid (Below w.heap.size w ((w.alloc (.cells #[] 38)).drew)) := Lib.hid ((Below.refl _ _).alloc (Nat.le_refl _) _).drew
    have HLIT : Hid (((w.alloc (.cells #[] 38)).drew).ownsRow w.heap.size 38 6 (.slice (some ⟨w.heap.size, 0, none⟩) 0 0) 0 []) := Lib.hid (owns_lit0 rfl (Nat.le_refl _))
    have hs1 : w.heap.size < ((w.alloc (.cells #[] 38)).drew).heap.size := by simp
    have HSZ := Lib.hid hs1
    clear hs1
    generalize (w.alloc (.cells #[] 38)).drew = w1 at *
    refine hK.out _ _ trivial (fun hHeld => ?_)
    clear hK K
    try simp only [q1,q2,q3,q4,q5]
    refine wpAnyH_ready (rs := [8]) (by kernel_rfl) (by simp) ?_
    refine AllReadyH.cons (o := ⟨some 12, _, _, _, _, _⟩) rfl (fun K hK => ?_) AllReadyH.nil
    have hs1 := HSZ.out
    have hCT := cells_keep HCT.out HB1.out (Nat.le_refl _)
    refine step_append_cells rfl (.tmp 5) (.tmp 11) 57 rfl w.heap.size 38 i0 (.agg #[.int .i64 0, .string ⟨#[]⟩, .bool false, .int .i64 0, .int .i64 0, .int .i64 0]) 6 56 Tryz.underlying57 hi0 hz0 hz1 hz2 rfl (by decide) (.slice (some ⟨w.heap.size, 0, none⟩) 0 0) 0 [] rfl HLIT.out w.heap.size (some ⟨gu, 0, none⟩) i c (flatO (L.take i)) rfl hCT (flatO_one _) (by unfold maxLen; omega) (by omega) (by omega) ?_
    intro v5 w5 hown5 ht5 hb5
    rw [Nat.zero_add, List.nil_append] at hown5
    replace HB1 := Lib.hid (HB1.out.trans (ht5.below (B := w.heap.size) (by omega) (by intro k hk; simp [Value.ownBlock] at hk; omega)))
    have hs5 := ht5.size
    have HO5 := Lib.hid hown5
    clear hown5 hb5 hCT
    refine hK.out _ _ trivial (fun hHeld => ?_)
    clear hK K
    try simp only [q1,q2,q3,q4,q5]
    refine wpAnyH_ready (rs := [16]) (by kernel_rfl) (by simp) ?_
    refine AllReadyH.cons (o := ⟨some 20, _, _, _, _, _⟩) rfl (fun K hK => ?_) AllReadyH.nil
    have hs1 := HSZ.out
    have hCD := cells_keep HCD.out HB1.out (Nat.le_refl _)
    refine step_append_cells rfl (.tmp 12) (.tmp 19) 57 rfl w.heap.size 38 i0 (.agg #[.int .i64 0, .string ⟨#[]⟩, .bool false, .int .i64 0, .int .i64 0, .int .i64 0]) 6 56 Tryz.underlying57 hi0 hz0 hz1 hz2 rfl (by decide) v5 i (flatO (L.take i)) rfl HO5.out w.heap.size (some ⟨gu, 0, none⟩) 0 0 (flatO (L.drop (i + 1))) rfl hCD (flatO_one _) (by unfold maxLen; omega) (by omega) (by omega) ?_
    intro v6 w6 hown6 ht6 hb6
    replace HB1 := Lib.hid (HB1.out.trans (ht6.below (B := w.heap.size) (by omega) (fun k hk => (HO5.out.lt k hk).1)))
    have hs6 := ht6.size
    have HO6 := Lib.hid hown6
    clear hown6 hb6 hCD
    refine hK.out _ _ trivial (fun hHeld => ?_)
    clear hK K
    try simp only [q1,q2,q3,q4,q5]
    refine tkY 17 (some 21) ?v17f_404 rfl ?y17f_404 ?r17f_404
    case y17f_404 => exact tY
    case r17f_404 =>
    try simp only [q1,q2,q3,q4,q5]
    refine tkY 18 (some 22) ?v18f_407 rfl ?y18f_407 ?r18f_407
    case y18f_407 => exact tY
    case r18f_407 =>
    try simp only [q1,q2,q3,q4,q5]
    refine wpAnyH_ready (rs := [19]) (by kernel_rfl) (by simp) ?_
    refine AllReadyH.cons (o := ⟨none, _, _, _, _, _⟩) rfl (fun K hK => ?_) AllReadyH.nil
    have k6 := bkeep HB1.out hx0 hxl
    have f6 := (HBK.out.below HB1.out hxl).free 0
    obtain ⟨A6, c6, hv6, _, _, _⟩ := own_slice HO6.out
    subst hv6
    go_simp
    refine hK.out _ _ trivial (fun hHeld => ?_)
    clear hK K
    try simp only [q1,q2,q3,q4,q5]
    refine wpAnyH_done (by kernel_rfl) ?_ _
    go_wp2_with fail
    refine bodyPost_end (v := .tuple #[]) (by simp [results, Tryz.results90, go_sem]) rfl ⟨_, rfl, outEnd HBK.out hxl HB1.out HO6.out (by omega) hi hBl hBx⟩
  ·
   have kx := bkeep HB1.out hx0 hxl
   go_simp
   refine hK.out _ _ trivial (fun hHeld => ?_)
   clear hK K
   try simp only [q1,q2,q3,q4,q5]
   refine tkY 15 (some 19) (.slice (some ⟨gu, 0, none⟩) 0 0) rfl ?y15f_428 ?r15f_428
   case y15f_428 => (intro w hSw; (try dsimp only at hSw); (try go_split_ands); go_simp; (first | (intro hh; exfalso; omega) | (rw [if_pos ⟨by omega, by omega⟩, if_neg (by omega)])))
   case r15f_428 =>
   try simp only [q1,q2,q3,q4,q5]
   refine wpAnyH_ready (rs := [1, 5]) (by kernel_rfl) (by simp) ?_
   refine AllReadyH.cons (o := ⟨some 5, _, _, _, _, _⟩) rfl (fun K hK => ?_) (AllReadyH.cons (o := ⟨some 9, _, _, _, _, _⟩) rfl (fun K hK => ?_) AllReadyH.nil)
   ·
    go_simp
    replace HB1 : Hid (Below w.heap.size w ((w.alloc (.cells #[] 38)).drew)) := Lib.hid ((Below.refl _ _).alloc (Nat.le_refl _) _).drew
    have HLIT : Hid (((w.alloc (.cells #[] 38)).drew).ownsRow w.heap.size 38 6 (.slice (some ⟨w.heap.size, 0, none⟩) 0 0) 0 []) := Lib.hid (owns_lit0 rfl (Nat.le_refl _))
    have hs1 : w.heap.size < ((w.alloc (.cells #[] 38)).drew).heap.size := by simp
    have HSZ := Lib.hid hs1
    clear hs1
    generalize (w.alloc (.cells #[] 38)).drew = w1 at *
    refine hK.out _ _ trivial (fun hHeld => ?_)
    clear hK K
    try simp only [q1,q2,q3,q4,q5]
    refine wpAnyH_ready (rs := [5]) (by kernel_rfl) (by simp) ?_
    refine AllReadyH.cons (o := ⟨some 9, _, _, _, _, _⟩) rfl (fun K hK => ?_) AllReadyH.nil
    have kx := bkeep HB1.out hx0 hxl
    go_simp
    refine hK.out _ _ trivial (fun hHeld => ?_)
    clear hK K
    try simp only [q1,q2,q3,q4,q5]
    refine tkY 7 (some 11) (.slice (some ⟨gu, 0, none⟩) i c) rfl ?y7f_450 ?r7f_450
    case y7f_450 => (intro w hSw; (try dsimp only at hSw); (try go_split_ands); go_simp; (try (intro hh; exfalso; omega)))
    case r7f_450 =>
    try simp only [q1,q2,q3,q4,q5]
    refine wpAnyH_ready (rs := [8]) (by kernel_rfl) (by simp) ?_
    refine AllReadyH.cons (o := ⟨some 12, _, _, _, _, _⟩) rfl (fun K hK => ?_) AllReadyH.nil
    have hs1 := HSZ.out
    have hCT := cells_keep HCT.out HB1.out (Nat.le_refl _)
    refine step_append_cells rfl (.tmp 5) (.tmp 11) 57 rfl w.heap.size 38 i0 (.agg #[.int .i64 0, .string ⟨#[]⟩, .bool false, .int .i64 0, .int .i64 0, .int .i64 0]) 6 56 Tryz.underlying57 hi0 hz0 hz1 hz2 rfl (by decide) (.slice (some ⟨w.heap.size, 0, none⟩) 0 0) 0 [] rfl HLIT.out w.heap.size (some ⟨gu, 0, none⟩) i c (flatO (L.take i)) rfl hCT (flatO_one _) (by unfold maxLen; omega) (by omega) (by omega) ?_
    intro v5 w5 hown5 ht5 hb5
    rw [Nat.zero_add, List.nil_append] at hown5
    replace HB1 := Lib.hid (HB1.out.trans (ht5.below (B := w.heap.size) (by omega) (by intro k hk; simp [Value.ownBlock] at hk; omega)))
    have hs5 := ht5.size
    have HO5 := Lib.hid hown5
    clear hown5 hb5 hCT
    refine hK.out _ _ trivial (fun hHeld => ?_)
    clear hK K
    try simp only [q1,q2,q3,q4,q5]
    refine wpAnyH_ready (rs := [16]) (by kernel_rfl) (by simp) ?_
    refine AllReadyH.cons (o := ⟨some 20, _, _, _, _, _⟩) rfl (fun K hK => ?_) AllReadyH.nil
    have hs1 := HSZ.out
    have hCD := cells_keep HCD.out HB1.out (Nat.le_refl _)
    refine step_append_cells rfl (.tmp 12) (.tmp 19) 57 rfl w.heap.size 38 i0 (.agg #[.int .i64 0, .string ⟨#[]⟩, .bool false, .int .i64 0, .int .i64 0, .int .i64 0]) 6 56 Tryz.underlying57 hi0 hz0 hz1 hz2 rfl (by decide) v5 i (flatO (L.take i)) rfl HO5.out w.heap.size (some ⟨gu, 0, none⟩) 0 0 (flatO (L.drop (i + 1))) rfl hCD (flatO_one _) (by unfold maxLen; omega) (by omega) (by omega) ?_
    intro v6 w6 hown6 ht6 hb6
    replace HB1 := Lib.hid (HB1.out.trans (ht6.below (B := w.heap.size) (by omega) (fun k hk => (HO5.out.lt k hk).1)))
    have hs6 := ht6.size
    have HO6 := Lib.hid hown6
    clear hown6 hb6 hCD
    refine hK.out _ _ trivial (fun hHeld => ?_)
    clear hK K
    try simp only [q1,q2,q3,q4,q5]
    refine tkY 17 (some 21) ?v17f_480 rfl ?y17f_480 ?r17f_480
    case y17f_480 => exact tY
    case r17f_480 =>
    try simp only [q1,q2,q3,q4,q5]
    refine tkY 18 (some 22) ?v18f_483 rfl ?y18f_483 ?r18f_483
    case y18f_483 => exact tY
    case r18f_483 =>
    try simp only [q1,q2,q3,q4,q5]
    refine wpAnyH_ready (rs := [19]) (by kernel_rfl) (by simp) ?_
    refine AllReadyH.cons (o := ⟨none, _, _, _, _, _⟩) rfl (fun K hK => ?_) AllReadyH.nil
    have k6 := bkeep HB1.out hx0 hxl
    have f6 := (HBK.out.below HB1.out hxl).free 0
    obtain ⟨A6, c6, hv6, _, _, _⟩ := own_slice HO6.out
    subst hv6
    go_simp
    refine hK.out _ _ trivial (fun hHeld => ?_)
    clear hK K
    try simp only [q1,q2,q3,q4,q5]
    refine wpAnyH_done (by kernel_rfl) ?_ _
    go_wp2_with fail
    refine bodyPost_end (v := .tuple #[]) (by simp [results, Tryz.results90, go_sem]) rfl ⟨_, rfl, outEnd HBK.out hxl HB1.out HO6.out (by omega) hi hBl hBx⟩
   ·
    have kx := bkeep HB1.out hx0 hxl
    go_simp
    refine hK.out _ _ trivial (fun hHeld => ?_)
    clear hK K
    try simp only [q1,q2,q3,q4,q5]
    refine tkY 7 (some 11) (.slice (some ⟨gu, 0, none⟩) i c) rfl ?y7f_504 ?r7f_504
    case y7f_504 => (intro w hSw; (try dsimp only at hSw); (try go_split_ands); go_simp; (try (intro hh; exfalso; omega)))
    case r7f_504 =>
    try simp only [q1,q2,q3,q4,q5]
    refine wpAnyH_ready (rs := [1]) (by kernel_rfl) (by simp) ?_
    refine AllReadyH.cons (o := ⟨some 5, _, _, _, _, _⟩) rfl (fun K hK => ?_) AllReadyH.nil
    go_simp
    replace HB1 : Hid (Below w.heap.size w ((w.alloc (.cells #[] 38)).drew)) := Lib.hid ((Below.refl _ _).alloc (Nat.le_refl _) _).drew
    have HLIT : Hid (((w.alloc (.cells #[] 38)).drew).ownsRow w.heap.size 38 6 (.slice (some ⟨w.heap.size, 0, none⟩) 0 0) 0 []) := Lib.hid (owns_lit0 rfl (Nat.le_refl _))
    have hs1 : w.heap.size < ((w.alloc (.cells #[] 38)).drew).heap.size := by simp
    have HSZ := Lib.hid hs1
    clear hs1
    generalize (w.alloc (.cells #[] 38)).drew = w1 at *
    refine hK.out _ _ trivial (fun hHeld => ?_)
    clear hK K
    try simp only [q1,q2,q3,q4,q5]
    refine wpAnyH_ready (rs := [8]) (by kernel_rfl) (by simp) ?_
    refine AllReadyH.cons (o := ⟨some 12, _, _, _, _, _⟩) rfl (fun K hK => ?_) AllReadyH.nil
    have hs1 := HSZ.out
    have hCT := cells_keep HCT.out HB1.out (Nat.le_refl _)
    refine step_append_cells rfl (.tmp 5) (.tmp 11) 57 rfl w.heap.size 38 i0 (.agg #[.int .i64 0, .string ⟨#[]⟩, .bool false, .int .i64 0, .int .i64 0, .int .i64 0]) 6 56 Tryz.underlying57 hi0 hz0 hz1 hz2 rfl (by decide) (.slice (some ⟨w.heap.size, 0, none⟩) 0 0) 0 [] rfl HLIT.out w.heap.size (some ⟨gu, 0, none⟩) i c (flatO (L.take i)) rfl hCT (flatO_one _) (by unfold maxLen; omega) (by omega) (by omega) ?_
    intro v5 w5 hown5 ht5 hb5
    rw [Nat.zero_add, List.nil_append] at hown5
    replace HB1 := Lib.hid (HB1.out.trans (ht5.below (B := w.heap.size) (by omega) (by intro k hk; simp [Value.ownBlock] at hk; omega)))
    have hs5 := ht5.size
    have HO5 := Lib.hid hown5
    clear hown5 hb5 hCT
    refine hK.out _ _ trivial (fun hHeld => ?_)
    clear hK K
    try simp only [q1,q2,q3,q4,q5]
    refine wpAnyH_ready (rs := [16]) (by kernel_rfl) (by simp) ?_
    refine AllReadyH.cons (o := ⟨some 20, _, _, _, _, _⟩) rfl (fun K hK => ?_) AllReadyH.nil
    have hs1 := HSZ.out
    have hCD := cells_keep HCD.out HB1.out (Nat.le_refl _)
    refine step_append_cells rfl (.tmp 12) (.tmp 19) 57 rfl w.heap.size 38 i0 (.agg #[.int .i64 0, .string ⟨#[]⟩, .bool false, .int .i64 0, .int .i64 0, .int .i64 0]) 6 56 Tryz.underlying57 hi0 hz0 hz1 hz2 rfl (by decide) v5 i (flatO (L.take i)) rfl HO5.out w.heap.size (some ⟨gu, 0, none⟩) 0 0 (flatO (L.drop (i + 1))) rfl hCD (flatO_one _) (by unfold maxLen; omega) (by omega) (by omega) ?_
    intro v6 w6 hown6 ht6 hb6
    replace HB1 := Lib.hid (HB1.out.trans (ht6.below (B := w.heap.size) (by omega) (fun k hk => (HO5.out.lt k hk).1)))
    have hs6 := ht6.size
    have HO6 := Lib.hid hown6
    clear hown6 hb6 hCD
    refine hK.out _ _ trivial (fun hHeld => ?_)
    clear hK K
    try simp only [q1,q2,q3,q4,q5]
    refine tkY 17 (some 21) ?v17f_546 rfl ?y17f_546 ?r17f_546
    case y17f_546 => exact tY
    case r17f_546 =>
    try simp only [q1,q2,q3,q4,q5]
    refine tkY 18 (some 22) ?v18f_549 rfl ?y18f_549 ?r18f_549
    case y18f_549 => exact tY
    case r18f_549 =>
    try simp only [q1,q2,q3,q4,q5]
    refine wpAnyH_ready (rs := [19]) (by kernel_rfl) (by simp) ?_
    refine AllReadyH.cons (o := ⟨none, _, _, _, _, _⟩) rfl (fun K hK => ?_) AllReadyH.nil
    have k6 := bkeep HB1.out hx0 hxl
    have f6 := (HBK.out.below HB1.out hxl).free 0
    obtain ⟨A6, c6, hv6, _, _, _⟩ := own_slice HO6.out
    subst hv6
    go_simp
    refine hK.out _ _ trivial (fun hHeld => ?_)
    clear hK K
    try simp only [q1,q2,q3,q4,q5]
    refine wpAnyH_done (by kernel_rfl) ?_ _
    go_wp2_with fail
    refine bodyPost_end (v := .tuple #[]) (by simp [results, Tryz.results90, go_sem]) rfl ⟨_, rfl, outEnd HBK.out hxl HB1.out HO6.out (by omega) hi hBl hBx⟩
 ·
  have hCD := cells_drop hC (k := i + 1) (by omega) (c - (i + 1))
  rw [← flatO_drop] at hCD
  have HCD := Lib.hid hCD
  have hlt : i + 1 < c := by omega
  clear hCD hC
  go_enter Tryz.func90, Tryz.ntmps90
  go_wp2_with fail
  refine wp_region_held_drew (S := (fun _ => True)) (by kernel_rfl) trivial (fun hHeld => ?_)
  refine tkY 0 (some 4) ?v0g_1 rfl ?y0g_1 ?r0g_1
  case y0g_1 => exact tY
  case r0g_1 =>
  try simp only [q1,q2,q3,q4,q5]
  refine tkY 2 (some 6) ?v2g_4 rfl ?y2g_4 ?r2g_4
  case y2g_4 => exact tY
  case r2g_4 =>
  try simp only [q1,q2,q3,q4,q5]
  refine tkY 3 (some 7) ?v3g_7 rfl ?y3g_7 ?r3g_7
  case y3g_7 => exact tY
  case r3g_7 =>
  try simp only [q1,q2,q3,q4,q5]
  refine tkY 4 (some 8) ?v4g_10 rfl ?y4g_10 ?r4g_10
  case y4g_10 => exact tY
  case r4g_10 =>
  try simp only [q1,q2,q3,q4,q5]
  refine tkY 6 (some 10) ?v6g_13 rfl ?y6g_13 ?r6g_13
  case y6g_13 => exact tY
  case r6g_13 =>
  try simp only [q1,q2,q3,q4,q5]
  refine tkY 9 (some 13) ?v9g_16 rfl ?y9g_16 ?r9g_16
  case y9g_16 => exact tY
  case r9g_16 =>
  try simp only [q1,q2,q3,q4,q5]
  refine tkY 10 (some 14) ?v10g_19 rfl ?y10g_19 ?r10g_19
  case y10g_19 => exact tY
  case r10g_19 =>
  try simp only [q1,q2,q3,q4,q5]
  refine tkY 11 (some 15) ?v11g_22 rfl ?y11g_22 ?r11g_22
  case y11g_22 => exact tY
  case r11g_22 =>
  try simp only [q1,q2,q3,q4,q5]
  refine tkY 13 (some 17) ?v13g_25 rfl ?y13g_25 ?r13g_25
  case y13g_25 => exact tY
  case r13g_25 =>
  try simp only [q1,q2,q3,q4,q5]
  refine tkY 14 (some 18) (.int .i64 ((i : Int) + 1)) rfl ?y14g_28 ?r14g_28
  case y14g_28 => (intro w hSw; (try dsimp only at hSw); (try go_split_ands); go_simp; (try exact hw1))
  case r14g_28 =>
  try simp only [q1,q2,q3,q4,q5]
  refine wpAnyH_ready (rs := [1, 5, 12]) (by kernel_rfl) (by simp) ?_
  refine AllReadyH.cons (o := ⟨some 5, _, _, _, _, _⟩) rfl (fun K hK => ?_) (AllReadyH.cons (o := ⟨some 9, _, _, _, _, _⟩) rfl (fun K hK => ?_) (AllReadyH.cons (o := ⟨some 16, _, _, _, _, _⟩) rfl (fun K hK => ?_) AllReadyH.nil))
  ·
   go_simp
   replace HB1 : Hid (Below w.heap.size w ((w.alloc (.cells #[] 38)).drew)) := Lib.hid ((Below.refl _ _).alloc (Nat.le_refl _) _).drew
   have HLIT : Hid (((w.alloc (.cells #[] 38)).drew).ownsRow w.heap.size 38 6 (.slice (some ⟨w.heap.size, 0, none⟩) 0 0) 0 []) := Lib.hid (owns_lit0 rfl (Nat.le_refl _))
   have hs1 : w.heap.size < ((w.alloc (.cells #[] 38)).drew).heap.size := by simp
   have HSZ := Lib.hid hs1
   clear hs1
   generalize (w.alloc (.cells #[] 38)).drew = w1 at *
   refine hK.out _ _ trivial (fun hHeld => ?_)
   clear hK K
   try simp only [q1,q2,q3,q4,q5]
   refine wpAnyH_ready (rs := [5, 12]) (by kernel_rfl) (by simp) ?_
   refine AllReadyH.cons (o := ⟨some 9, _, _, _, _, _⟩) rfl (fun K hK => ?_) (AllReadyH.cons (o := ⟨some 16, _, _, _, _, _⟩) rfl (fun K hK => ?_) AllReadyH.nil)
   ·
    have kx := bkeep HB1.out hx0 hxl
    go_simp
    refine hK.out _ _ trivial (fun hHeld => ?_)
    clear hK K
    try simp only [q1,q2,q3,q4,q5]
    refine tkY 7 (some 11) (.slice (some ⟨gu, 0, none⟩) i c) rfl ?y7g_50 ?r7g_50
    case y7g_50 => (intro w hSw; (try dsimp only at hSw); (try go_split_ands); go_simp; (try (intro hh; exfalso; omega)))
    case r7g_50 =>
    try simp only [q1,q2,q3,q4,q5]
    refine wpAnyH_ready (rs := [8, 12]) (by kernel_rfl) (by simp) ?_
    refine AllReadyH.cons (o := ⟨some 12, _, _, _, _, _⟩) rfl (fun K hK => ?_) (AllReadyH.cons (o := ⟨some 16, _, _, _, _, _⟩) rfl (fun K hK => ?_) AllReadyH.nil)
    ·
     have hs1 := HSZ.out
     have hCT := cells_keep HCT.out HB1.out (Nat.le_refl _)
     refine step_append_cells rfl (.tmp 5) (.tmp 11) 57 rfl w.heap.size 38 i0 (.agg #[.int .i64 0, .string ⟨#[]⟩, .bool false, .int .i64 0, .int .i64 0, .int .i64 0]) 6 56 Tryz.underlying57 hi0 hz0 hz1 hz2 rfl (by decide) (.slice (some ⟨w.heap.size, 0, none⟩) 0 0) 0 [] rfl HLIT.out w.heap.size (some ⟨gu, 0, none⟩) i c (flatO (L.take i)) rfl hCT (flatO_one _) (by unfold maxLen; omega) (by omega) (by omega) ?_
     intro v5 w5 hown5 ht5 hb5
     rw [Nat.zero_add, List.nil_append] at hown5
     replace HB1 := Lib.hid (HB1.out.trans (ht5.below (B := w.heap.size) (by omega) (by intro k hk; simp [Value.ownBlock] at hk; omega)))
     have hs5 := ht5.size
     have HO5 := Lib.hid hown5
     clear hown5 hb5 hCT
     refine hK.out _ _ trivial (fun hHeld => ?_)
     clear hK K
     try simp only [q1,q2,q3,q4,q5]
     refine wpAnyH_ready (rs := [12]) (by kernel_rfl) (by simp) ?_
     refine AllReadyH.cons (o := ⟨some 16, _, _, _, _, _⟩) rfl (fun K hK => ?_) AllReadyH.nil
     have kx := bkeep HB1.out hx0 hxl
     go_simp
     refine hK.out _ _ trivial (fun hHeld => ?_)
     clear hK K
     try simp only [q1,q2,q3,q4,q5]
     refine tkY 15 (some 19) (.slice (some ⟨gu, (i + 1) * 6, none⟩) (L.length - (i + 1)) (c - (i + 1))) rfl ?y15g_74 ?r15g_74
     case y15g_74 => (intro w hSw; (try dsimp only at hSw); (try go_split_ands); go_simp; (first | (intro hh; exfalso; omega) | (rw [if_pos ⟨by omega, by omega⟩, if_neg (by omega)])))
     case r15g_74 =>
     try simp only [q1,q2,q3,q4,q5]
     refine wpAnyH_ready (rs := [16]) (by kernel_rfl) (by simp) ?_
     refine AllReadyH.cons (o := ⟨some 20, _, _, _, _, _⟩) rfl (fun K hK => ?_) AllReadyH.nil
     have hs1 := HSZ.out
     have hCD := cells_keep HCD.out HB1.out (Nat.le_refl _)
     refine step_append_cells rfl (.tmp 12) (.tmp 19) 57 rfl w.heap.size 38 i0 (.agg #[.int .i64 0, .string ⟨#[]⟩, .bool false, .int .i64 0, .int .i64 0, .int .i64 0]) 6 56 Tryz.underlying57 hi0 hz0 hz1 hz2 rfl (by decide) v5 i (flatO (L.take i)) rfl HO5.out w.heap.size (some ⟨gu, (i + 1) * 6, none⟩) (L.length - (i + 1)) (c - (i + 1)) (flatO (L.drop (i + 1))) rfl hCD (flatO_one _) (by unfold maxLen; omega) (by omega) (by omega) ?_
     intro v6 w6 hown6 ht6 hb6
     replace HB1 := Lib.hid (HB1.out.trans (ht6.below (B := w.heap.size) (by omega) (fun k hk => (HO5.out.lt k hk).1)))
     have hs6 := ht6.size
     have HO6 := Lib.hid hown6
     clear hown6 hb6 hCD
     refine hK.out _ _ trivial (fun hHeld => ?_)
     clear hK K
     try simp only [q1,q2,q3,q4,q5]
     refine tkY 17 (some 21) ?v17g_90 rfl ?y17g_90 ?r17g_90
     case y17g_90 => exact tY
     case r17g_90 =>
     try simp only [q1,q2,q3,q4,q5]
     refine tkY 18 (some 22) ?v18g_93 rfl ?y18g_93 ?r18g_93
     case y18g_93 => exact tY
     case r18g_93 =>
     try simp only [q1,q2,q3,q4,q5]
     refine wpAnyH_ready (rs := [19]) (by kernel_rfl) (by simp) ?_
     refine AllReadyH.cons (o := ⟨none, _, _, _, _, _⟩) rfl (fun K hK => ?_) AllReadyH.nil
     have k6 := bkeep HB1.out hx0 hxl
     have f6 := (HBK.out.below HB1.out hxl).free 0
     obtain ⟨A6, c6, hv6, _, _, _⟩ := own_slice HO6.out
     subst hv6
     go_simp
     refine hK.out _ _ trivial (fun hHeld => ?_)
     clear hK K
     try simp only [q1,q2,q3,q4,q5]
     refine wpAnyH_done (by kernel_rfl) ?_ _
     go_wp2_with fail
     refine bodyPost_end (v := .tuple #[]) (by simp [results, Tryz.results90, go_sem]) rfl ⟨_, rfl, outEnd HBK.out hxl HB1.out HO6.out (by omega) hi hBl hBx⟩
    ·
     have kx := bkeep HB1.out hx0 hxl
     go_simp
     refine hK.out _ _ trivial (fun hHeld => ?_)
     clear hK K
     try simp only [q1,q2,q3,q4,q5]
     refine tkY 15 (some 19) (.slice (some ⟨gu, (i + 1) * 6, none⟩) (L.length - (i + 1)) (c - (i + 1))) rfl ?y15g_114 ?r15g_114
     case y15g_114 => (intro w hSw; (try dsimp only at hSw); (try go_split_ands); go_simp; (first | (intro hh; exfalso; omega) | (rw [if_pos ⟨by omega, by omega⟩, if_neg (by omega)])))
     case r15g_114 =>
     try simp only [q1,q2,q3,q4,q5]
     refine wpAnyH_ready (rs := [8]) (by kernel_rfl) (by simp) ?_
     refine AllReadyH.cons (o := ⟨some 12, _, _, _, _, _⟩) rfl (fun K hK => ?_) AllReadyH.nil
     have hs1 := HSZ.out
     have hCT := cells_keep HCT.out HB1.out (Nat.le_refl _)
     refine step_append_cells rfl (.tmp 5) (.tmp 11) 57 rfl w.heap.size 38 i0 (.agg #[.int .i64 0, .string ⟨#[]⟩, .bool false, .int .i64 0, .int .i64 0, .int .i64 0]) 6 56 Tryz.underlying57 hi0 hz0 hz1 hz2 rfl (by decide) (.slice (some ⟨w.heap.size, 0, none⟩) 0 0) 0 [] rfl HLIT.out w.heap.size (some ⟨gu, 0, none⟩) i c (flatO (L.take i)) rfl hCT (flatO_one _) (by unfold maxLen; omega) (by omega) (by omega) ?_
     intro v5 w5 hown5 ht5 hb5
     rw [Nat.zero_add, List.nil_append] at hown5
     replace HB1 := Lib.hid (HB1.out.trans (ht5.below (B := w.heap.size) (by omega) (by intro k hk; simp [Value.ownBlock] at hk; omega)))
     have hs5 := ht5.size
     have HO5 := Lib.hid hown5
     clear hown5 hb5 hCT
     refine hK.out _ _ trivial (fun hHeld => ?_)
     clear hK K
     try simp only [q1,q2,q3,q4,q5]
     refine wpAnyH_ready (rs := [16]) (by kernel_rfl) (by simp) ?_
     refine AllReadyH.cons (o := ⟨some 20, _, _, _, _, _⟩) rfl (fun K hK => ?_) AllReadyH.nil
     have hs1 := HSZ.out
     have hCD := cells_keep HCD.out HB1.out (Nat.le_refl _)
     refine step_append_cells rfl (.tmp 12) (.tmp 19) 57 rfl w.heap.size 38 i0 (.agg #[.int .i64 0, .string ⟨#[]⟩, .bool false, .int .i64 0, .int .i64 0, .int .i64 0]) 6 56 Tryz.underlying57 hi0 hz0 hz1 hz2 rfl (by decide) v5 i (flatO (L.take i)) rfl HO5.out w.heap.size (some ⟨gu, (i + 1) * 6, none⟩) (L.length - (i + 1)) (c - (i + 1)) (flatO (L.drop (i + 1))) rfl hCD (flatO_one _) (by unfold maxLen; omega) (by omega) (by omega) ?_
     intro v6 w6 hown6 ht6 hb6
     replace HB1 := Lib.hid (HB1.out.trans (ht6.below (B := w.heap.size) (by omega) (fun k hk => (HO5.out.lt k hk).1)))
     have hs6 := ht6.size
     have HO6 := Lib.hid hown6
     clear hown6 hb6 hCD
     refine hK.out _ _ trivial (fun hHeld => ?_)
     clear hK K
     try simp only [q1,q2,q3,q4,q5]
     refine tkY 17 (some 21) ?v17g_144 rfl ?y17g_144 ?r17g_144
     case y17g_144 => exact tY
     case r17g_144 =>
     try simp only [q1,q2,q3,q4,q5]
     refine tkY 18 (some 22) ?v18g_147 rfl ?y18g_147 ?r18g_147
     case y18g_147 => exact tY
     case r18g_147 =>
     try simp only [q1,q2,q3,q4,q5]
     refine wpAnyH_ready (rs := [19]) (by kernel_rfl) (by simp) ?_
     refine AllReadyH.cons (o := ⟨none, _, _, _, _, _⟩) rfl (fun K hK => ?_) AllReadyH.nil
     have k6 := bkeep HB1.out hx0 hxl
     have f6 := (HBK.out.below HB1.out hxl).free 0
     obtain ⟨A6, c6, hv6, _, _, _⟩ := own_slice HO6.out
     subst hv6
     go_simp
     refine hK.out _ _ trivial (fun hHeld => ?_)
     clear hK K
     try simp only [q1,q2,q3,q4,q5]
     refine wpAnyH_done (by kernel_rfl) ?_ _
     go_wp2_with fail
     refine bodyPost_end (v := .tuple #[]) (by simp [results, Tryz.results90, go_sem]) rfl ⟨_, rfl, outEnd HBK.out hxl HB1.out HO6.out (by omega) hi hBl hBx⟩
   ·
    have kx := bkeep HB1.out hx0 hxl
    go_simp
    refine hK.out _ _ trivial (fun hHeld => ?_)
    clear hK K
    try simp only [q1,q2,q3,q4,q5]
    refine tkY 15 (some 19) (.slice (some ⟨gu, (i + 1) * 6, none⟩) (L.length - (i + 1)) (c - (i + 1))) rfl ?y15g_168 ?r15g_168
    case y15g_168 => (intro w hSw; (try dsimp only at hSw); (try go_split_ands); go_simp; (first | (intro hh; exfalso; omega) | (rw [if_pos ⟨by omega, by omega⟩, if_neg (by omega)])))
    case r15g_168 =>
    try simp only [q1,q2,q3,q4,q5]
    refine wpAnyH_ready (rs := [5]) (by kernel_rfl) (by simp) ?_
    refine AllReadyH.cons (o := ⟨some 9, _, _, _, _, _⟩) rfl (fun K hK => ?_) AllReadyH.nil
    have kx := bkeep HB1.out hx0 hxl
    go_simp
    refine hK.out _ _ trivial (fun hHeld => ?_)
    clear hK K
    try simp only [q1,q2,q3,q4,q5]
    refine tkY 7 (some 11) (.slice (some ⟨gu, 0, none⟩) i c) rfl ?y7g_178 ?r7g_178
    case y7g_178 => (intro w hSw; (try dsimp only at hSw); (try go_split_ands); go_simp; (try (intro hh; exfalso; omega)))
    case r7g_178 =>
    try simp only [q1,q2,q3,q4,q5]
    refine wpAnyH_ready (rs := [8]) (by kernel_rfl) (by simp) ?_
    refine AllReadyH.cons (o := ⟨some 12, _, _, _, _, _⟩) rfl (fun K hK => ?_) AllReadyH.nil
    have hs1 := HSZ.out
    have hCT := cells_keep HCT.out HB1.out (Nat.le_refl _)
    refine step_append_cells rfl (.tmp 5) (.tmp 11) 57 rfl w.heap.size 38 i0 (.agg #[.int .i64 0, .string ⟨#[]⟩, .bool false, .int .i64 0, .int .i64 0, .int .i64 0]) 6 56 Tryz.underlying57 hi0 hz0 hz1 hz2 rfl (by decide) (.slice (some ⟨w.heap.size, 0, none⟩) 0 0) 0 [] rfl HLIT.out w.heap.size (some ⟨gu, 0, none⟩) i c (flatO (L.take i)) rfl hCT (flatO_one _) (by unfold maxLen; omega) (by omega) (by omega) ?_
    intro v5 w5 hown5 ht5 hb5
    rw [Nat.zero_add, List.nil_append] at hown5
    replace HB1 := Lib.hid (HB1.out.trans (ht5.below (B := w.heap.size) (by omega) (by intro k hk; simp [Value.ownBlock] at hk; omega)))
    have hs5 := ht5.size
    have HO5 := Lib.hid hown5
    clear hown5 hb5 hCT
    refine hK.out _ _ trivial (fun hHeld => ?_)
    clear hK K
    try simp only [q1,q2,q3,q4,q5]
    refine wpAnyH_ready (rs := [16]) (by kernel_rfl) (by simp) ?_
    refine AllReadyH.cons (o := ⟨some 20, _, _, _, _, _⟩) rfl (fun K hK => ?_) AllReadyH.nil
    have hs1 := HSZ.out
    have hCD := cells_keep HCD.out HB1.out (Nat.le_refl _)
    refine step_append_cells rfl (.tmp 12) (.tmp 19) 57 rfl w.heap.size 38 i0 (.agg #[.int .i64 0, .string ⟨#[]⟩, .bool false, .int .i64 0, .int .i64 0, .int .i64 0]) 6 56 Tryz.underlying57 hi0 hz0 hz1 hz2 rfl (by decide) v5 i (flatO (L.take i)) rfl HO5.out w.heap.size (some ⟨gu, (i + 1) * 6, none⟩) (L.length - (i + 1)) (c - (i + 1)) (flatO (L.drop (i + 1))) rfl hCD (flatO_one _) (by unfold maxLen; omega) (by omega) (by omega) ?_
    intro v6 w6 hown6 ht6 hb6
    replace HB1 := Lib.hid (HB1.out.trans (ht6.below (B := w.heap.size) (by omega) (fun k hk => (HO5.out.lt k hk).1)))
    have hs6 := ht6.size
    have HO6 := Lib.hid hown6
    clear hown6 hb6 hCD
    refine hK.out _ _ trivial (fun hHeld => ?_)
    clear hK K
    try simp only [q1,q2,q3,q4,q5]
    refine tkY 17 (some 21) ?v17g_208 rfl ?y17g_208 ?r17g_208
    case y17g_208 => exact tY
    case r17g_208 =>
    try simp only [q1,q2,q3,q4,q5]
    refine tkY 18 (some 22) ?v18g_211 rfl ?y18g_211 ?r18g_211
    case y18g_211 => exact tY
    case r18g_211 =>
    try simp only [q1,q2,q3,q4,q5]
    refine wpAnyH_ready (rs := [19]) (by kernel_rfl) (by simp) ?_
    refine AllReadyH.cons (o := ⟨none, _, _, _, _, _⟩) rfl (fun K hK => ?_) AllReadyH.nil
    have k6 := bkeep HB1.out hx0 hxl
    have f6 := (HBK.out.below HB1.out hxl).free 0
    obtain ⟨A6, c6, hv6, _, _, _⟩ := own_slice HO6.out
    subst hv6
    go_simp
    refine hK.out _ _ trivial (fun hHeld => ?_)
    clear hK K
    try simp only [q1,q2,q3,q4,q5]
    refine wpAnyH_done (by kernel_rfl) ?_ _
    go_wp2_with fail
    refine bodyPost_end (v := .tuple #[]) (by simp [results, Tryz.results90, go_sem]) rfl ⟨_, rfl, outEnd HBK.out hxl HB1.out HO6.out (by omega) hi hBl hBx⟩
  ·
   have kx := bkeep HB1.out hx0 hxl
   go_simp
   refine hK.out _ _ trivial (fun hHeld => ?_)
   clear hK K
   try simp only [q1,q2,q3,q4,q5]
   refine tkY 7 (some 11) (.slice (some ⟨gu, 0, none⟩) i c) rfl ?y7g_232 ?r7g_232
   case y7g_232 => (intro w hSw; (try dsimp only at hSw); (try go_split_ands); go_simp; (try (intro hh; exfalso; omega)))
   case r7g_232 =>
   try simp only [q1,q2,q3,q4,q5]
   refine wpAnyH_ready (rs := [1, 12]) (by kernel_rfl) (by simp) ?_
   refine AllReadyH.cons (o := ⟨some 5, _, _, _, _, _⟩) rfl (fun K hK => ?_) (AllReadyH.cons (o := ⟨some 16, _, _, _, _, _⟩) rfl (fun K hK => ?_) AllReadyH.nil)
   ·
    go_simp
    replace HB1 : Hid (Below w.heap.size w ((w.alloc (.cells #[] 38)).drew)) := Lib.hid ((Below.refl _ _).alloc (Nat.le_refl _) _).drew
    have HLIT : Hid (((w.alloc (.cells #[] 38)).drew).ownsRow w.heap.size 38 6 (.slice (some ⟨w.heap.size, 0, none⟩) 0 0) 0 []) := Lib.hid (owns_lit0 rfl (Nat.le_refl _))
    have hs1 : w.heap.size < ((w.alloc (.cells #[] 38)).drew).heap.size := by simp
    have HSZ := Lib.hid hs1
    clear hs1
    generalize (w.alloc (.cells #[] 38)).drew = w1 at *
    refine hK.out _ _ trivial (fun hHeld => ?_)
    clear hK K
    try simp only [q1,q2,q3,q4,q5]
    refine wpAnyH_ready (rs := [8, 12]) (by kernel_rfl) (by simp) ?_
    refine AllReadyH.cons (o := ⟨some 12, _, _, _, _, _⟩) rfl (fun K hK => ?_) (AllReadyH.cons (o := ⟨some 16, _, _, _, _, _⟩) rfl (fun K hK => ?_) AllReadyH.nil)
    ·
     have hs1 := HSZ.out
     have hCT := cells_keep HCT.out HB1.out (Nat.le_refl _)
     refine step_append_cells rfl (.tmp 5) (.tmp 11) 57 rfl w.heap.size 38 i0 (.agg #[.int .i64 0, .string ⟨#[]⟩, .bool false, .int .i64 0, .int .i64 0, .int .i64 0]) 6 56 Tryz.underlying57 hi0 hz0 hz1 hz2 rfl (by decide) (.slice (some ⟨w.heap.size, 0, none⟩) 0 0) 0 [] rfl HLIT.out w.heap.size (some ⟨gu, 0, none⟩) i c (flatO (L.take i)) rfl hCT (flatO_one _) (by unfold maxLen; omega) (by omega) (by omega) ?_
     intro v5 w5 hown5 ht5 hb5
     rw [Nat.zero_add, List.nil_append] at hown5
     replace HB1 := Lib.hid (HB1.out.trans (ht5.below (B := w.heap.size) (by omega) (by intro k hk; simp [Value.ownBlock] at hk; omega)))
     have hs5 := ht5.size
     have HO5 := Lib.hid hown5
     clear hown5 hb5 hCT
     refine hK.out _ _ trivial (fun hHeld => ?_)
     clear hK K
     try simp only [q1,q2,q3,q4,q5]
     refine wpAnyH_ready (rs := [12]) (by kernel_rfl) (by simp) ?_
     refine AllReadyH.cons (o := ⟨some 16, _, _, _, _, _⟩) rfl (fun K hK => ?_) AllReadyH.nil
     have kx := bkeep HB1.out hx0 hxl
     go_simp
     refine hK.out _ _ trivial (fun hHeld => ?_)
     clear hK K
     try simp only [q1,q2,q3,q4,q5]
     refine tkY 15 (some 19) (.slice (some ⟨gu, (i + 1) * 6, none⟩) (L.length - (i + 1)) (c - (i + 1))) rfl ?y15g_268 ?r15g_268
     case y15g_268 => (intro w hSw; (try dsimp only at hSw); (try go_split_ands); go_simp; (first | (intro hh; exfalso; omega) | (rw [if_pos ⟨by omega, by omega⟩, if_neg (by omega)])))
     case r15g_268 =>
     try simp only [q1,q2,q3,q4,q5]
     refine wpAnyH_ready (rs := [16]) (by kernel_rfl) (by simp) ?_
     refine AllReadyH.cons (o := ⟨some 20, _, _, _, _, _⟩) rfl (fun K hK => ?_) AllReadyH.nil
     have hs1 := HSZ.out
     have hCD := cells_keep HCD.out HB1.out (Nat.le_refl _)
     refine step_append_cells rfl (.tmp 12) (.tmp 19) 57 rfl w.heap.size 38 i0 (.agg #[.int .i64 0, .string ⟨#[]⟩, .bool false, .int .i64 0, .int .i64 0, .int .i64 0]) 6 56 Tryz.underlying57 hi0 hz0 hz1 hz2 rfl (by decide) v5 i (flatO (L.take i)) rfl HO5.out w.heap.size (some ⟨gu, (i + 1) * 6, none⟩) (L.length - (i + 1)) (c - (i + 1)) (flatO (L.drop (i + 1))) rfl hCD (flatO_one _) (by unfold maxLen; omega) (by omega) (by omega) ?_
     intro v6 w6 hown6 ht6 hb6
     replace HB1 := Lib.hid (HB1.out.trans (ht6.below (B := w.heap.size) (by omega) (fun k hk => (HO5.out.lt k hk).1)))
     have hs6 := ht6.size
     have HO6 := Lib.hid hown6
     clear hown6 hb6 hCD
     refine hK.out _ _ trivial (fun hHeld => ?_)
     clear hK K
     try simp only [q1,q2,q3,q4,q5]
     refine tkY 17 (some 21) ?v17g_284 rfl ?y17g_284 ?r17g_284
     case y17g_284 => exact tY
     case r17g_284 =>
     try simp only [q1,q2,q3,q4,q5]
     refine tkY 18 (some 22) ?v18g_287 rfl ?y18g_287 ?r18g_287
     case y18g_287 => exact tY
     case r18g_287 =>
     try simp only [q1,q2,q3,q4,q5]
     refine wpAnyH_ready (rs := [19]) (by kernel_rfl) (by simp) ?_
     refine AllReadyH.cons (o := ⟨none, _, _, _, _, _⟩) rfl (fun K hK => ?_) AllReadyH.nil
     have k6 := bkeep HB1.out hx0 hxl
     have f6 := (HBK.out.below HB1.out hxl).free 0
     obtain ⟨A6, c6, hv6, _, _, _⟩ := own_slice HO6.out
     subst hv6
     go_simp
     refine hK.out _ _ trivial (fun hHeld => ?_)
     clear hK K
     try simp only [q1,q2,q3,q4,q5]
     refine wpAnyH_done (by kernel_rfl) ?_ _
     go_wp2_with fail
     refine bodyPost_end (v := .tuple #[]) (by simp [results, Tryz.results90, go_sem]) rfl ⟨_, rfl, outEnd HBK.out hxl HB1.out HO6.out (by omega) hi hBl hBx⟩
    ·
     have kx := bkeep HB1.out hx0 hxl
     go_simp
     refine hK.out _ _ trivial (fun hHeld => ?_)
     clear hK K
     try simp only [q1,q2,q3,q4,q5]
     refine tkY 15 (some 19) (.slice (some ⟨gu, (i + 1) * 6, none⟩) (L.length - (i + 1)) (c - (i + 1))) rfl ?y15g_308 ?r15g_308
     case y15g_308 => (intro w hSw; (try dsimp only at hSw); (try go_split_ands); go_simp; (first | (intro hh; exfalso; omega) | (rw [if_pos ⟨by omega, by omega⟩, if_neg (by omega)])))
     case r15g_308 =>
     try simp only [q1,q2,q3,q4,q5]
     refine wpAnyH_ready (rs := [8]) (by kernel_rfl) (by simp) ?_
     refine AllReadyH.cons (o := ⟨some 12, _, _, _, _, _⟩) rfl (fun K hK => ?_) AllReadyH.nil
     have hs1 := HSZ.out
     have hCT := cells_keep HCT.out HB1.out (Nat.le_refl _)
     refine step_append_cells rfl (.tmp 5) (.tmp 11) 57 rfl w.heap.size 38 i0 (.agg #[.int .i64 0, .string ⟨#[]⟩, .bool false, .int .i64 0, .int .i64 0, .int .i64 0]) 6 56 Tryz.underlying57 hi0 hz0 hz1 hz2 rfl (by decide) (.slice (some ⟨w.heap.size, 0, none⟩) 0 0) 0 [] rfl HLIT.out w.heap.size (some ⟨gu, 0, none⟩) i c (flatO (L.take i)) rfl hCT (flatO_one _) (by unfold maxLen; omega) (by omega) (by omega) ?_
     intro v5 w5 hown5 ht5 hb5
     rw [Nat.zero_add, List.nil_append] at hown5
     replace HB1 := Lib.hid (HB1.out.trans (ht5.below (B := w.heap.size) (by omega) (by intro k hk; simp [Value.ownBlock] at hk; omega)))
     have hs5 := ht5.size
     have HO5 := Lib.hid hown5
     clear hown5 hb5 hCT
     refine hK.out _ _ trivial (fun hHeld => ?_)
     clear hK K
     try simp only [q1,q2,q3,q4,q5]
     refine wpAnyH_ready (rs := [16]) (by kernel_rfl) (by simp) ?_
     refine AllReadyH.cons (o := ⟨some 20, _, _, _, _, _⟩) rfl (fun K hK => ?_) AllReadyH.nil
     have hs1 := HSZ.out
     have hCD := cells_keep HCD.out HB1.out (Nat.le_refl _)
     refine step_append_cells rfl (.tmp 12) (.tmp 19) 57 rfl w.heap.size 38 i0 (.agg #[.int .i64 0, .string ⟨#[]⟩, .bool false, .int .i64 0, .int .i64 0, .int .i64 0]) 6 56 Tryz.underlying57 hi0 hz0 hz1 hz2 rfl (by decide) v5 i (flatO (L.take i)) rfl HO5.out w.heap.size (some ⟨gu, (i + 1) * 6, none⟩) (L.length - (i + 1)) (c - (i + 1)) (flatO (L.drop (i + 1))) rfl hCD (flatO_one _) (by unfold maxLen; omega) (by omega) (by omega) ?_
     intro v6 w6 hown6 ht6 hb6
     replace HB1 := Lib.hid (HB1.out.trans (ht6.below (B := w.heap.size) (by omega) (fun k hk => (HO5.out.lt k hk).1)))
     have hs6 := ht6.size
     have HO6 := Lib.hid hown6
     clear hown6 hb6 hCD
     refine hK.out _ _ trivial (fun hHeld => ?_)
     clear hK K
     try simp only [q1,q2,q3,q4,q5]
     refine tkY 17 (some 21) ?v17g_338 rfl ?y17g_338 ?r17g_338
     case y17g_338 => exact tY
     case r17g_338 =>
     try simp only [q1,q2,q3,q4,q5]
     refine tkY 18 (some 22) ?v18g_341 rfl ?y18g_341 ?r18g_341
     case y18g_341 => exact tY
     case r18g_341 =>
     try simp only [q1,q2,q3,q4,q5]
     refine wpAnyH_ready (rs := [19]) (by kernel_rfl) (by simp) ?_
     refine AllReadyH.cons (o := ⟨none, _, _, _, _, _⟩) rfl (fun K hK => ?_) AllReadyH.nil
     have k6 := bkeep HB1.out hx0 hxl
     have f6 := (HBK.out.below HB1.out hxl).free 0
     obtain ⟨A6, c6, hv6, _, _, _⟩ := own_slice HO6.out
     subst hv6
     go_simp
     refine hK.out _ _ trivial (fun hHeld => ?_)
     clear hK K
     try simp only [q1,q2,q3,q4,q5]
     refine wpAnyH_done (by kernel_rfl) ?_ _
     go_wp2_with fail
     refine bodyPost_end (v := .tuple #[]) (by simp [results, Tryz.results90, go_sem]) rfl ⟨_, rfl, outEnd HBK.out hxl HB1.out HO6.out (by omega) hi hBl hBx⟩
   ·
    have kx := bkeep HB1.out hx0 hxl
    go_simp
    refine hK.out _ _ trivial (fun hHeld => ?_)
    clear hK K
    try simp only [q1,q2,q3,q4,q5]
    refine tkY 15 (some 19) (.slice (some ⟨gu, (i + 1) * 6, none⟩) (L.length - (i + 1)) (c - (i + 1))) rfl ?y15g_362 ?r15g_362
    case y15g_362 => (intro w hSw; (try dsimp only at hSw); (try go_split_ands); go_simp; (first | (intro hh; exfalso; omega) | (rw [if_pos ⟨by omega, by omega⟩, if_neg (by omega)])))
    case r15g_362 =>
    try simp only [q1,q2,q3,q4,q5]
    refine wpAnyH_ready (rs := [1]) (by kernel_rfl) (by simp) ?_
    refine AllReadyH.cons (o := ⟨some 5, _, _, _, _, _⟩) rfl (fun K hK => ?_) AllReadyH.nil
    go_simp
    replace HB1 : Hid (Below w.heap.size w ((w.alloc (.cells #[] 38)).drew)) := Lib.hid ((Below.refl _ _).alloc (Nat.le_refl _) _).drew
    have HLIT : Hid (((w.alloc (.cells #[] 38)).drew).ownsRow w.heap.size 38 6 (.slice (some ⟨w.heap.size, 0, none⟩) 0 0) 0 []) := Lib.hid (owns_lit0 rfl (Nat.le_refl _))
    have hs1 : w.heap.size < ((w.alloc (.cells #[] 38)).drew).heap.size := by simp
    have HSZ := Lib.hid hs1
    clear hs1
    generalize (w.alloc (.cells #[] 38)).drew = w1 at *
    refine hK.out _ _ trivial (fun hHeld => ?_)
    clear hK K
    try simp only [q1,q2,q3,q4,q5]
    refine wpAnyH_ready (rs := [8]) (by kernel_rfl) (by simp) ?_
    refine AllReadyH.cons (o := ⟨some 12, _, _, _, _, _⟩) rfl (fun K hK => ?_) AllReadyH.nil
    have hs1 := HSZ.out
    have hCT := cells_keep HCT.out HB1.out (Nat.le_refl _)
    refine step_append_cells rfl (.tmp 5) (.tmp 11) 57 rfl w.heap.size 38 i0 (.agg #[.int .i64 0, .string ⟨#[]⟩, .bool false, .int .i64 0, .int .i64 0, .int .i64 0]) 6 56 Tryz.underlying57 hi0 hz0 hz1 hz2 rfl (by decide) (.slice (some ⟨w.heap.size, 0, none⟩) 0 0) 0 [] rfl HLIT.out w.heap.size (some ⟨gu, 0, none⟩) i c (flatO (L.take i)) rfl hCT (flatO_one _) (by unfold maxLen; omega) (by omega) (by omega) ?_
    intro v5 w5 hown5 ht5 hb5
    rw [Nat.zero_add, List.nil_append] at hown5
    replace HB1 := Lib.hid (HB1.out.trans (ht5.below (B := w.heap.size) (by omega) (by intro k hk; simp [Value.ownBlock] at hk; omega)))
    have hs5 := ht5.size
    have HO5 := Lib.hid hown5
    clear hown5 hb5 hCT
    refine hK.out _ _ trivial (fun hHeld => ?_)
    clear hK K
    try simp only [q1,q2,q3,q4,q5]
    refine wpAnyH_ready (rs := [16]) (by kernel_rfl) (by simp) ?_
    refine AllReadyH.cons (o := ⟨some 20, _, _, _, _, _⟩) rfl (fun K hK => ?_) AllReadyH.nil
    have hs1 := HSZ.out
    have hCD := cells_keep HCD.out HB1.out (Nat.le_refl _)
    refine step_append_cells rfl (.tmp 12) (.tmp 19) 57 rfl w.heap.size 38 i0 (.agg #[.int .i64 0, .string ⟨#[]⟩, .bool false, .int .i64 0, .int .i64 0, .int .i64 0]) 6 56 Tryz.underlying57 hi0 hz0 hz1 hz2 rfl (by decide) v5 i (flatO (L.take i)) rfl HO5.out w.heap.size (some ⟨gu, (i + 1) * 6, none⟩) (L.length - (i + 1)) (c - (i + 1)) (flatO (L.drop (i + 1))) rfl hCD (flatO_one _) (by unfold maxLen; omega) (by omega) (by omega) ?_
    intro v6 w6 hown6 ht6 hb6
    replace HB1 := Lib.hid (HB1.out.trans (ht6.below (B := w.heap.size) (by omega) (fun k hk => (HO5.out.lt k hk).1)))
    have hs6 := ht6.size
    have HO6 := Lib.hid hown6
    clear hown6 hb6 hCD
    refine hK.out _ _ trivial (fun hHeld => ?_)
    clear hK K
    try simp only [q1,q2,q3,q4,q5]
    refine tkY 17 (some 21) ?v17g_404 rfl ?y17g_404 ?r17g_404
    case y17g_404 => exact tY
    case r17g_404 =>
    try simp only [q1,q2,q3,q4,q5]
    refine tkY 18 (some 22) ?v18g_407 rfl ?y18g_407 ?r18g_407
    case y18g_407 => exact tY
    case r18g_407 =>
    try simp only [q1,q2,q3,q4,q5]
    refine wpAnyH_ready (rs := [19]) (by kernel_rfl) (by simp) ?_
    refine AllReadyH.cons (o := ⟨none, _, _, _, _, _⟩) rfl (fun K hK => ?_) AllReadyH.nil
    have k6 := bkeep HB1.out hx0 hxl
    have f6 := (HBK.out.below HB1.out hxl).free 0
    obtain ⟨A6, c6, hv6, _, _, _⟩ := own_slice HO6.out
    subst hv6
    go_simp
    refine hK.out _ _ trivial (fun hHeld => ?_)
    clear hK K
    try simp only [q1,q2,q3,q4,q5]
    refine wpAnyH_done (by kernel_rfl) ?_ _
    go_wp2_with fail
    refine bodyPost_end (v := .tuple #[]) (by simp [results, Tryz.results90, go_sem]) rfl ⟨_, rfl, outEnd HBK.out hxl HB1.out HO6.out (by omega) hi hBl hBx⟩
  ·
   have kx := bkeep HB1.out hx0 hxl
   go_simp
   refine hK.out _ _ trivial (fun hHeld => ?_)
   clear hK K
   try simp only [q1,q2,q3,q4,q5]
   refine tkY 15 (some 19) (.slice (some ⟨gu, (i + 1) * 6, none⟩) (L.length - (i + 1)) (c - (i + 1))) rfl ?y15g_428 ?r15g_428
   case y15g_428 => (intro w hSw; (try dsimp only at hSw); (try go_split_ands); go_simp; (first | (intro hh; exfalso; omega) | (rw [if_pos ⟨by omega, by omega⟩, if_neg (by omega)])))
   case r15g_428 =>
   try simp only [q1,q2,q3,q4,q5]
   refine wpAnyH_ready (rs := [1, 5]) (by kernel_rfl) (by simp) ?_
   refine AllReadyH.cons (o := ⟨some 5, _, _, _, _, _⟩) rfl (fun K hK => ?_) (AllReadyH.cons (o := ⟨some 9, _, _, _, _, _⟩) rfl (fun K hK => ?_) AllReadyH.nil)
   ·
    go_simp
    replace HB1 : Hid (Below w.heap.size w ((w.alloc (.cells #[] 38)).drew)) := Lib.hid ((Below.refl _ _).alloc (Nat.le_refl _) _).drew
    have HLIT : Hid (((w.alloc (.cells #[] 38)).drew).ownsRow w.heap.size 38 6 (.slice (some ⟨w.heap.size, 0, none⟩) 0 0) 0 []) := Lib.hid (owns_lit0 rfl (Nat.le_refl _))
    have hs1 : w.heap.size < ((w.alloc (.cells #[] 38)).drew).heap.size := by simp
    have HSZ := Lib.hid hs1
    clear hs1
    generalize (w.alloc (.cells #[] 38)).drew = w1 at *
    refine hK.out _ _ trivial (fun hHeld => ?_)
    clear hK K
    try simp only [q1,q2,q3,q4,q5]
    refine wpAnyH_ready (rs := [5]) (by kernel_rfl) (by simp) ?_
    refine AllReadyH.cons (o := ⟨some 9, _, _, _, _, _⟩) rfl (fun K hK => ?_) AllReadyH.nil
    have kx := bkeep HB1.out hx0 hxl
    go_simp
    refine hK.out _ _ trivial (fun hHeld => ?_)
    clear hK K
    try simp only [q1,q2,q3,q4,q5]
    refine tkY 7 (some 11) (.slice (some ⟨gu, 0, none⟩) i c) rfl ?y7g_450 ?r7g_450
    case y7g_450 => (intro w hSw; (try dsimp only at hSw); (try go_split_ands); go_simp; (try (intro hh; exfalso; omega)))
    case r7g_450 =>
    try simp only [q1,q2,q3,q4,q5]
    refine wpAnyH_ready (rs := [8]) (by kernel_rfl) (by simp) ?_
    refine AllReadyH.cons (o := ⟨some 12, _, _, _, _, _⟩) rfl (fun K hK => ?_) AllReadyH.nil
    have hs1 := HSZ.out
    have hCT := cells_keep HCT.out HB1.out (Nat.le_refl _)
    refine step_append_cells rfl (.tmp 5) (.tmp 11) 57 rfl w.heap.size 38 i0 (.agg #[.int .i64 0, .string ⟨#[]⟩, .bool false, .int .i64 0, .int .i64 0, .int .i64 0]) 6 56 Tryz.underlying57 hi0 hz0 hz1 hz2 rfl (by decide) (.slice (some ⟨w.heap.size, 0, none⟩) 0 0) 0 [] rfl HLIT.out w.heap.size (some ⟨gu, 0, none⟩) i c (flatO (L.take i)) rfl hCT (flatO_one _) (by unfold maxLen; omega) (by omega) (by omega) ?_
    intro v5 w5 hown5 ht5 hb5
    rw [Nat.zero_add, List.nil_append] at hown5
    replace HB1 := Lib.hid (HB1.out.trans (ht5.below (B := w.heap.size) (by omega) (by intro k hk; simp [Value.ownBlock] at hk; omega)))
    have hs5 := ht5.size
    have HO5 := Lib.hid hown5
    clear hown5 hb5 hCT
    refine hK.out _ _ trivial (fun hHeld => ?_)
    clear hK K
    try simp only [q1,q2,q3,q4,q5]
    refine wpAnyH_ready (rs := [16]) (by kernel_rfl) (by simp) ?_
    refine AllReadyH.cons (o := ⟨some 20, _, _, _, _, _⟩) rfl (fun K hK => ?_) AllReadyH.nil
    have hs1 := HSZ.out
    have hCD := cells_keep HCD.out HB1.out (Nat.le_refl _)
    refine step_append_cells rfl (.tmp 12) (.tmp 19) 57 rfl w.heap.size 38 i0 (.agg #[.int .i64 0, .string ⟨#[]⟩, .bool false, .int .i64 0, .int .i64 0, .int .i64 0]) 6 56 Tryz.underlying57 hi0 hz0 hz1 hz2 rfl (by decide) v5 i (flatO (L.take i)) rfl HO5.out w.heap.size (some ⟨gu, (i + 1) * 6, none⟩) (L.length - (i + 1)) (c - (i + 1)) (flatO (L.drop (i + 1))) rfl hCD (flatO_one _) (by unfold maxLen; omega) (by omega) (by omega) ?_
    intro v6 w6 hown6 ht6 hb6
    replace HB1 := Lib.hid (HB1.out.trans (ht6.below (B := w.heap.size) (by omega) (fun k hk => (HO5.out.lt k hk).1)))
    have hs6 := ht6.size
    have HO6 := Lib.hid hown6
    clear hown6 hb6 hCD
    refine hK.out _ _ trivial (fun hHeld => ?_)
    clear hK K
    try simp only [q1,q2,q3,q4,q5]
    refine tkY 17 (some 21) ?v17g_480 rfl ?y17g_480 ?r17g_480
    case y17g_480 => exact tY
    case r17g_480 =>
    try simp only [q1,q2,q3,q4,q5]
    refine tkY 18 (some 22) ?v18g_483 rfl ?y18g_483 ?r18g_483
    case y18g_483 => exact tY
    case r18g_483 =>
    try simp only [q1,q2,q3,q4,q5]
    refine wpAnyH_ready (rs := [19]) (by kernel_rfl) (by simp) ?_
    refine AllReadyH.cons (o := ⟨none, _, _, _, _, _⟩) rfl (fun K hK => ?_) AllReadyH.nil
    have k6 := bkeep HB1.out hx0 hxl
    have f6 := (HBK.out.below HB1.out hxl).free 0
    obtain ⟨A6, c6, hv6, _, _, _⟩ := own_slice HO6.out
    subst hv6
    go_simp
    refine hK.out _ _ trivial (fun hHeld => ?_)
    clear hK K
    try simp only [q1,q2,q3,q4,q5]
    refine wpAnyH_done (by kernel_rfl) ?_ _
    go_wp2_with fail
    refine bodyPost_end (v := .tuple #[]) (by simp [results, Tryz.results90, go_sem]) rfl ⟨_, rfl, outEnd HBK.out hxl HB1.out HO6.out (by omega) hi hBl hBx⟩
   ·
    have kx := bkeep HB1.out hx0 hxl
    go_simp
    refine hK.out _ _ trivial (fun hHeld => ?_)
    clear hK K
    try simp only [q1,q2,q3,q4,q5]
    refine tkY 7 (some 11) (.slice (some ⟨gu, 0, none⟩) i c) rfl ?y7g_504 ?r7g_504
    case y7g_504 => (intro w hSw; (try dsimp only at hSw); (try go_split_ands); go_simp; (try (intro hh; exfalso; omega)))
    case r7g_504 =>
    try simp only [q1,q2,q3,q4,q5]
    refine wpAnyH_ready (rs := [1]) (by kernel_rfl) (by simp) ?_
    refine AllReadyH.cons (o := ⟨some 5, _, _, _, _, _⟩) rfl (fun K hK => ?_) AllReadyH.nil
    go_simp
    replace HB1 : Hid (Below w.heap.size w ((w.alloc (.cells #[] 38)).drew)) := Lib.hid ((Below.refl _ _).alloc (Nat.le_refl _) _).drew
    have HLIT : Hid (((w.alloc (.cells #[] 38)).drew).ownsRow w.heap.size 38 6 (.slice (some ⟨w.heap.size, 0, none⟩) 0 0) 0 []) := Lib.hid (owns_lit0 rfl (Nat.le_refl _))
    have hs1 : w.heap.size < ((w.alloc (.cells #[] 38)).drew).heap.size := by simp
    have HSZ := Lib.hid hs1
    clear hs1
    generalize (w.alloc (.cells #[] 38)).drew = w1 at *
    refine hK.out _ _ trivial (fun hHeld => ?_)
    clear hK K
    try simp only [q1,q2,q3,q4,q5]
    refine wpAnyH_ready (rs := [8]) (by kernel_rfl) (by simp) ?_
    refine AllReadyH.cons (o := ⟨some 12, _, _, _, _, _⟩) rfl (fun K hK => ?_) AllReadyH.nil
    have hs1 := HSZ.out
    have hCT := cells_keep HCT.out HB1.out (Nat.le_refl _)
    refine step_append_cells rfl (.tmp 5) (.tmp 11) 57 rfl w.heap.size 38 i0 (.agg #[.int .i64 0, .string ⟨#[]⟩, .bool false, .int .i64 0, .int .i64 0, .int .i64 0]) 6 56 Tryz.underlying57 hi0 hz0 hz1 hz2 rfl (by decide) (.slice (some ⟨w.heap.size, 0, none⟩) 0 0) 0 [] rfl HLIT.out w.heap.size (some ⟨gu, 0, none⟩) i c (flatO (L.take i)) rfl hCT (flatO_one _) (by unfold maxLen; omega) (by omega) (by omega) ?_
    intro v5 w5 hown5 ht5 hb5
    rw [Nat.zero_add, List.nil_append] at hown5
    replace HB1 := Lib.hid (HB1.out.trans (ht5.below (B := w.heap.size) (by omega) (by intro k hk; simp [Value.ownBlock] at hk; omega)))
    have hs5 := ht5.size
    have HO5 := Lib.hid hown5
    clear hown5 hb5 hCT
    refine hK.out _ _ trivial (fun hHeld => ?_)
    clear hK K
    try simp only [q1,q2,q3,q4,q5]
    refine wpAnyH_ready (rs := [16]) (by kernel_rfl) (by simp) ?_
    refine AllReadyH.cons (o := ⟨some 20, _, _, _, _, _⟩) rfl (fun K hK => ?_) AllReadyH.nil
    have hs1 := HSZ.out
    have hCD := cells_keep HCD.out HB1.out (Nat.le_refl _)
    refine step_append_cells rfl (.tmp 12) (.tmp 19) 57 rfl w.heap.size 38 i0 (.agg #[.int .i64 0, .string ⟨#[]⟩, .bool false, .int .i64 0, .int .i64 0, .int .i64 0]) 6 56 Tryz.underlying57 hi0 hz0 hz1 hz2 rfl (by decide) v5 i (flatO (L.take i)) rfl HO5.out w.heap.size (some ⟨gu, (i + 1) * 6, none⟩) (L.length - (i + 1)) (c - (i + 1)) (flatO (L.drop (i + 1))) rfl hCD (flatO_one _) (by unfold maxLen; omega) (by omega) (by omega) ?_
    intro v6 w6 hown6 ht6 hb6
    replace HB1 := Lib.hid (HB1.out.trans (ht6.below (B := w.heap.size) (by omega) (fun k hk => (HO5.out.lt k hk).1)))
    have hs6 := ht6.size
    have HO6 := Lib.hid hown6
    clear hown6 hb6 hCD
    refine hK.out _ _ trivial (fun hHeld => ?_)
    clear hK K
    try simp only [q1,q2,q3,q4,q5]
    refine tkY 17 (some 21) ?v17g_546 rfl ?y17g_546 ?r17g_546
    case y17g_546 => exact tY
    case r17g_546 =>
    try simp only [q1,q2,q3,q4,q5]
    refine tkY 18 (some 22) ?v18g_549 rfl ?y18g_549 ?r18g_549
    case y18g_549 => exact tY
    case r18g_549 =>
    try simp only [q1,q2,q3,q4,q5]
    refine wpAnyH_ready (rs := [19]) (by kernel_rfl) (by simp) ?_
    refine AllReadyH.cons (o := ⟨none, _, _, _, _, _⟩) rfl (fun K hK => ?_) AllReadyH.nil
    have k6 := bkeep HB1.out hx0 hxl
    have f6 := (HBK.out.below HB1.out hxl).free 0
    obtain ⟨A6, c6, hv6, _, _, _⟩ := own_slice HO6.out
    subst hv6
    go_simp
    refine hK.out _ _ trivial (fun hHeld => ?_)
    clear hK K
    try simp only [q1,q2,q3,q4,q5]
    refine wpAnyH_done (by kernel_rfl) ?_ _
    go_wp2_with fail
    refine bodyPost_end (v := .tuple #[]) (by simp [results, Tryz.results90, go_sem]) rfl ⟨_, rfl, outEnd HBK.out hxl HB1.out HO6.out (by omega) hi hBl hBx⟩
end Go.Proofs.YtdlbiobjnohfbaaGreat
