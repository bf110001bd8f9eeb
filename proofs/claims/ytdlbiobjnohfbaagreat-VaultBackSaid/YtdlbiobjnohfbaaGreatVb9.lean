/- book: Place, of one who sells. -/
import Derived.Test.YtdlbiobjnohfbaaGreatVb7
namespace Go.Proofs.YtdlbiobjnohfbaaGreat
open Go.RowKit
open List (setIfInBounds_toArray set_cons_zero set_cons_succ)
set_option linter.unusedVariables false
set_option linter.unusedSimpArgs false
set_option maxHeartbeats 40000000 in
set_option maxRecDepth 10000 in
theorem bkPlaceF (Y : Lay) (b : Nat) (v : Nat → Value) (S : Nat → List Od) (last : Int) (L : List Od) (o : Od) (w : World) (h : BkH Y w b v S last) (hr : RelS S L) (hk : Bk L last) (hlen : L.length ≤ 1000) (hb : o.buy = false) :
  Calls Tryz.prog 43 #[.pointer (some ⟨b, Y.o, none⟩), odA o] w fun e w' => PlaceQ Y b v L last o w e w' := by
 have HB := Lib.hid h
 have HR := Lib.hid hr
 have HK := Lib.hid hk
 have hbl := h.whl.low
 have HBUY := Lib.hid hb
 clear h hr hk hb
 unfold odA
 go_enter Tryz.func43, Tryz.ntmps43
 go_wp2_with fail
 have P0 : Whl (w.alloc (.cells #[.int .i64 o.id, .string o.who, .bool o.buy, .int .i64 o.item, .int .i64 o.ct, .int .i64 o.pr] 38)) w.heap.size 38 #[.int .i64 o.id, .string o.who, .bool o.buy, .int .i64 o.item, .int .i64 o.ct, .int .i64 o.pr] := Whl.new rfl
 have HB0 : Hid (BkH Y (w.alloc (.cells #[.int .i64 o.id, .string o.who, .bool o.buy, .int .i64 o.item, .int .i64 o.ct, .int .i64 o.pr] 38)) b v S last) := Lib.hid (HB.out.keep (D := fun _ => False) ((Touch.refl _ _).alloc _) (fun _ _ h => h))
 have hB0 : Below w.heap.size w (w.alloc (.cells #[.int .i64 o.id, .string o.who, .bool o.buy, .int .i64 o.item, .int .i64 o.ct, .int .i64 o.pr] 38)) := (Below.refl _ _).alloc (Nat.le_refl _) _
 have hs0 : w.heap.size < (w.alloc (.cells #[.int .i64 o.id, .string o.who, .bool o.buy, .int .i64 o.item, .int .i64 o.ct, .int .i64 o.pr] 38)).heap.size := by simp
 generalize w.alloc (.cells #[.int .i64 o.id, .string o.who, .bool o.buy, .int .i64 o.item, .int .i64 o.ct, .int .i64 o.pr] 38) = V at P0 HB0 hB0 hs0 ⊢
 have d0 := P0.cell 0
 have d1 := P0.cell 1
 have d2 := P0.cell 2
 have d3 := P0.cell 3
 have d4 := P0.cell 4
 have d5 := P0.cell 5
 have l8 := (HB0.out.whl.cell (Y.o + 8)).trans (Y.num v last)
 simp only [List.getElem?_toArray, List.getElem?_cons_succ, List.getElem?_cons_zero] at d0 d1 d2 d3 d4 d5
 by_cases hok : OkO o
 case neg =>
  have HMAY : Hid (decide (OkO o) = false) := Lib.hid (decide_eq_false hok)
  refine wp_region_held_drew (S := (fun W => Below V.heap.size V W ∧ W.cell? ⟨w.heap.size, 0, none⟩ = some (.int .i64 o.id) ∧ W.cell? ⟨w.heap.size, 1, none⟩ = some (.string o.who) ∧ W.cell? ⟨w.heap.size, 2, none⟩ = some (.bool o.buy) ∧ W.cell? ⟨w.heap.size, 3, none⟩ = some (.int .i64 o.item) ∧ W.cell? ⟨w.heap.size, 4, none⟩ = some (.int .i64 o.ct) ∧ W.cell? ⟨w.heap.size, 5, none⟩ = some (.int .i64 o.pr) ∧ W.cell? ⟨b, Y.o + 8, none⟩ = some (.int .i64 last))) (by kernel_rfl) ⟨(Below.refl _ _).drew, d0, d1, d2, d3, d4, d5, l8⟩ (fun hHeld => ?_)
  refine tkY 0 (some 12) ?v0a rfl ?y0a ?r0a
  case y0a => exact tY
  case r0a =>
  try simp only [Act.put,setIfInBounds_toArray,set_cons_zero,set_cons_succ]
  refine tkY 1 (some 13) ?v1a rfl ?y1a ?r1a
  case y1a => exact tY
  case r1a =>
  try simp only [Act.put,setIfInBounds_toArray,set_cons_zero,set_cons_succ]
  refine tkY 2 (some 14) ?v2a rfl ?y2a ?r2a
  case y2a => exact tY
  case r2a =>
  try simp only [Act.put,setIfInBounds_toArray,set_cons_zero,set_cons_succ]
  refine tkY 3 (some 15) ?v3a rfl ?y3a ?r3a
  case y3a => exact tY
  case r3a =>
  try simp only [Act.put,setIfInBounds_toArray,set_cons_zero,set_cons_succ]
  refine wpAnyH_ready (rs := [4]) (by kernel_rfl) (by simp) ?_
  refine AllReadyH.cons (o := ⟨some 16, _, _, _, _, _⟩) rfl (fun K hK => ?_) AllReadyH.nil
  go_simp
  refine (bkMay o _).mono ?_; rintro e w3 ⟨he, hb3⟩; rw [HMAY.out] at he; subst he
  go_wp2_with fail
  refine hK.out _ _ (by have hh := Below.trans hHeld.1 (Below.mono hb3 (Below.size hHeld.1)); exact ⟨hh, bkeep hh d0 (by omega), bkeep hh d1 (by omega), bkeep hh d2 (by omega), bkeep hh d3 (by omega), bkeep hh d4 (by omega), bkeep hh d5 (by omega), bkeep hh l8 (by omega)⟩) (fun hHeld => ?_)
  clear hK K
  try simp only [Act.put,setIfInBounds_toArray,set_cons_zero,set_cons_succ]
  refine tkY 5 (some 17) ?v5a rfl ?y5a ?r5a
  case y5a => exact tY
  case r5a =>
  try simp only [Act.put,setIfInBounds_toArray,set_cons_zero,set_cons_succ]
  refine tkY 6 (some 18) ?v6a rfl ?y6a ?r6a
  case y6a => exact tY
  case r6a =>
  try simp only [Act.put,setIfInBounds_toArray,set_cons_zero,set_cons_succ]
  refine tkY 7 (some 19) ?v7a rfl ?y7a ?r7a
  case y7a => exact tY
  case r7a =>
  try simp only [Act.put,setIfInBounds_toArray,set_cons_zero,set_cons_succ]
  refine tkN 8 (some 20) rfl ?_
  try simp only [Act.put,setIfInBounds_toArray,set_cons_zero,set_cons_succ]
  refine tkN 9 (some 21) rfl ?_
  try simp only [Act.put,setIfInBounds_toArray,set_cons_zero,set_cons_succ]
  refine tkN 10 (some 22) rfl ?_
  try simp only [Act.put,setIfInBounds_toArray,set_cons_zero,set_cons_succ]
  refine tkN 11 (some 23) rfl ?_
  try simp only [Act.put,setIfInBounds_toArray,set_cons_zero,set_cons_succ]
  refine tkN 12 (some 24) rfl ?_
  try simp only [Act.put,setIfInBounds_toArray,set_cons_zero,set_cons_succ]
  refine tkN 13 (some 25) rfl ?_
  try simp only [Act.put,setIfInBounds_toArray,set_cons_zero,set_cons_succ]
  refine tkN 14 (some 26) rfl ?_
  try simp only [Act.put,setIfInBounds_toArray,set_cons_zero,set_cons_succ]
  refine tkY 15 (some 27) ?v15a rfl ?y15a ?r15a
  case y15a => exact tY
  case r15a =>
  try simp only [Act.put,setIfInBounds_toArray,set_cons_zero,set_cons_succ]
  refine wpAnyH_done (by kernel_rfl) ?_ _
  go_wp2_with fail
  refine bodyPost_ret (v := .tuple #[.slice none 0 0, .int .i64 0, .int .i64 1]) (by simp [results, Tryz.results43, go_sem, *]) rfl (.inl ⟨fun hh => hok hh.1, rfl, hB0.trans (hHeld.1.mono (by omega))⟩)
 have HMAY : Hid (decide (OkO o) = true) := Lib.hid (decide_eq_true hok)
 by_cases hid : last < o.id
 case neg =>
  have hid2 : o.id ≤ last := by omega
  refine wp_region_held_drew (S := (fun W => Below V.heap.size V W ∧ W.cell? ⟨w.heap.size, 0, none⟩ = some (.int .i64 o.id) ∧ W.cell? ⟨w.heap.size, 1, none⟩ = some (.string o.who) ∧ W.cell? ⟨w.heap.size, 2, none⟩ = some (.bool o.buy) ∧ W.cell? ⟨w.heap.size, 3, none⟩ = some (.int .i64 o.item) ∧ W.cell? ⟨w.heap.size, 4, none⟩ = some (.int .i64 o.ct) ∧ W.cell? ⟨w.heap.size, 5, none⟩ = some (.int .i64 o.pr) ∧ W.cell? ⟨b, Y.o + 8, none⟩ = some (.int .i64 last))) (by kernel_rfl) ⟨(Below.refl _ _).drew, d0, d1, d2, d3, d4, d5, l8⟩ (fun hHeld => ?_)
  refine tkY 0 (some 12) ?v0b rfl ?y0b ?r0b
  case y0b => exact tY
  case r0b =>
  try simp only [Act.put,setIfInBounds_toArray,set_cons_zero,set_cons_succ]
  refine tkY 1 (some 13) ?v1b rfl ?y1b ?r1b
  case y1b => exact tY
  case r1b =>
  try simp only [Act.put,setIfInBounds_toArray,set_cons_zero,set_cons_succ]
  refine tkY 2 (some 14) ?v2b rfl ?y2b ?r2b
  case y2b => exact tY
  case r2b =>
  try simp only [Act.put,setIfInBounds_toArray,set_cons_zero,set_cons_succ]
  refine tkY 3 (some 15) ?v3b rfl ?y3b ?r3b
  case y3b => exact tY
  case r3b =>
  try simp only [Act.put,setIfInBounds_toArray,set_cons_zero,set_cons_succ]
  refine wpAnyH_ready (rs := [4]) (by kernel_rfl) (by simp) ?_
  refine AllReadyH.cons (o := ⟨some 16, _, _, _, _, _⟩) rfl (fun K hK => ?_) AllReadyH.nil
  go_simp
  refine (bkMay o _).mono ?_; rintro e w3 ⟨he, hb3⟩; rw [HMAY.out] at he; subst he
  go_wp2_with fail
  refine hK.out _ _ (by have hh := Below.trans hHeld.1 (Below.mono hb3 (Below.size hHeld.1)); exact ⟨hh, bkeep hh d0 (by omega), bkeep hh d1 (by omega), bkeep hh d2 (by omega), bkeep hh d3 (by omega), bkeep hh d4 (by omega), bkeep hh d5 (by omega), bkeep hh l8 (by omega)⟩) (fun hHeld => ?_)
  clear hK K
  try simp only [Act.put,setIfInBounds_toArray,set_cons_zero,set_cons_succ]
  refine tkY 5 (some 17) ?v5b rfl ?y5b ?r5b
  case y5b => exact tY
  case r5b =>
  try simp only [Act.put,setIfInBounds_toArray,set_cons_zero,set_cons_succ]
  refine tkY 6 (some 18) ?v6b rfl ?y6b ?r6b
  case y6b => exact tY
  case r6b =>
  try simp only [Act.put,setIfInBounds_toArray,set_cons_zero,set_cons_succ]
  refine tkY 7 (some 19) ?v7b rfl ?y7b ?r7b
  case y7b => exact tY
  case r7b =>
  try simp only [Act.put,setIfInBounds_toArray,set_cons_zero,set_cons_succ]
  refine tkY 8 (some 20) ?v8b rfl ?y8b ?r8b
  case y8b => exact tY
  case r8b =>
  try simp only [Act.put,setIfInBounds_toArray,set_cons_zero,set_cons_succ]
  refine tkY 9 (some 21) ?v9b rfl ?y9b ?r9b
  case y9b => exact tY
  case r9b =>
  try simp only [Act.put,setIfInBounds_toArray,set_cons_zero,set_cons_succ]
  refine tkY 10 (some 22) ?v10b rfl ?y10b ?r10b
  case y10b => exact tY
  case r10b =>
  try simp only [Act.put,setIfInBounds_toArray,set_cons_zero,set_cons_succ]
  refine tkY 11 (some 23) ?v11b rfl ?y11b ?r11b
  case y11b => exact tY
  case r11b =>
  try simp only [Act.put,setIfInBounds_toArray,set_cons_zero,set_cons_succ]
  refine tkY 12 (some 24) ?v12b rfl ?y12b ?r12b
  case y12b => exact tY
  case r12b =>
  try simp only [Act.put,setIfInBounds_toArray,set_cons_zero,set_cons_succ]
  refine tkY 13 (some 25) ?v13b rfl ?y13b ?r13b
  case y13b => exact tY
  case r13b =>
  try simp only [Act.put,setIfInBounds_toArray,set_cons_zero,set_cons_succ]
  refine tkY 14 (some 26) ?v14b rfl ?y14b ?r14b
  case y14b => exact tY
  case r14b =>
  try simp only [Act.put,setIfInBounds_toArray,set_cons_zero,set_cons_succ]
  refine tkY 15 (some 27) ?v15b rfl ?y15b ?r15b
  case y15b => exact tY
  case r15b =>
  try simp only [Act.put,setIfInBounds_toArray,set_cons_zero,set_cons_succ]
  refine wpAnyH_done (by kernel_rfl) ?_ _
  go_wp2_with fail
  refine bodyPost_ret (v := .tuple #[.slice none 0 0, .int .i64 0, .int .i64 1]) (by simp [results, Tryz.results43, go_sem, *]) rfl (.inl ⟨fun hh => by have := hh.2; omega, rfl, hB0.trans (hHeld.1.mono (by omega))⟩)
 have hid2 : ¬ o.id ≤ last := by omega
 refine wp_region_held_drew (S := (fun W => Below V.heap.size V W ∧ W.cell? ⟨w.heap.size, 0, none⟩ = some (.int .i64 o.id) ∧ W.cell? ⟨w.heap.size, 1, none⟩ = some (.string o.who) ∧ W.cell? ⟨w.heap.size, 2, none⟩ = some (.bool o.buy) ∧ W.cell? ⟨w.heap.size, 3, none⟩ = some (.int .i64 o.item) ∧ W.cell? ⟨w.heap.size, 4, none⟩ = some (.int .i64 o.ct) ∧ W.cell? ⟨w.heap.size, 5, none⟩ = some (.int .i64 o.pr) ∧ W.cell? ⟨b, Y.o + 8, none⟩ = some (.int .i64 last))) (by kernel_rfl) ⟨(Below.refl _ _).drew, d0, d1, d2, d3, d4, d5, l8⟩ (fun hHeld => ?_)
 refine tkY 0 (some 12) ?v0c rfl ?y0c ?r0c
 case y0c => exact tY
 case r0c =>
 try simp only [Act.put,setIfInBounds_toArray,set_cons_zero,set_cons_succ]
 refine tkY 1 (some 13) ?v1c rfl ?y1c ?r1c
 case y1c => exact tY
 case r1c =>
 try simp only [Act.put,setIfInBounds_toArray,set_cons_zero,set_cons_succ]
 refine tkY 2 (some 14) ?v2c rfl ?y2c ?r2c
 case y2c => exact tY
 case r2c =>
 try simp only [Act.put,setIfInBounds_toArray,set_cons_zero,set_cons_succ]
 refine tkY 3 (some 15) ?v3c rfl ?y3c ?r3c
 case y3c => exact tY
 case r3c =>
 try simp only [Act.put,setIfInBounds_toArray,set_cons_zero,set_cons_succ]
 refine wpAnyH_ready (rs := [4]) (by kernel_rfl) (by simp) ?_
 refine AllReadyH.cons (o := ⟨some 16, _, _, _, _, _⟩) rfl (fun K hK => ?_) AllReadyH.nil
 go_simp
 refine (bkMay o _).mono ?_; rintro e w3 ⟨he, hb3⟩; rw [HMAY.out] at he; subst he
 go_wp2_with fail
 refine hK.out _ _ (by have hh := Below.trans hHeld.1 (Below.mono hb3 (Below.size hHeld.1)); exact ⟨hh, bkeep hh d0 (by omega), bkeep hh d1 (by omega), bkeep hh d2 (by omega), bkeep hh d3 (by omega), bkeep hh d4 (by omega), bkeep hh d5 (by omega), bkeep hh l8 (by omega)⟩) (fun hHeld => ?_)
 clear hK K
 try simp only [Act.put,setIfInBounds_toArray,set_cons_zero,set_cons_succ]
 refine tkY 5 (some 17) ?v5c rfl ?y5c ?r5c
 case y5c => exact tY
 case r5c =>
 try simp only [Act.put,setIfInBounds_toArray,set_cons_zero,set_cons_succ]
 refine tkY 6 (some 18) ?v6c rfl ?y6c ?r6c
 case y6c => exact tY
 case r6c =>
 try simp only [Act.put,setIfInBounds_toArray,set_cons_zero,set_cons_succ]
 refine tkY 7 (some 19) ?v7c rfl ?y7c ?r7c
 case y7c => exact tY
 case r7c =>
 try simp only [Act.put,setIfInBounds_toArray,set_cons_zero,set_cons_succ]
 refine tkY 8 (some 20) ?v8c rfl ?y8c ?r8c
 case y8c => exact tY
 case r8c =>
 try simp only [Act.put,setIfInBounds_toArray,set_cons_zero,set_cons_succ]
 refine tkY 9 (some 21) ?v9c rfl ?y9c ?r9c
 case y9c => exact tY
 case r9c =>
 try simp only [Act.put,setIfInBounds_toArray,set_cons_zero,set_cons_succ]
 refine tkY 10 (some 22) ?v10c rfl ?y10c ?r10c
 case y10c => exact tY
 case r10c =>
 try simp only [Act.put,setIfInBounds_toArray,set_cons_zero,set_cons_succ]
 refine tkY 11 (some 23) ?v11c rfl ?y11c ?r11c
 case y11c => exact tY
 case r11c =>
 try simp only [Act.put,setIfInBounds_toArray,set_cons_zero,set_cons_succ]
 refine tkY 12 (some 24) ?v12c rfl ?y12c ?r12c
 case y12c => exact tY
 case r12c =>
 try simp only [Act.put,setIfInBounds_toArray,set_cons_zero,set_cons_succ]
 refine tkY 13 (some 25) ?v13c rfl ?y13c ?r13c
 case y13c => exact tY
 case r13c =>
 try simp only [Act.put,setIfInBounds_toArray,set_cons_zero,set_cons_succ]
 refine tkY 14 (some 26) ?v14c rfl ?y14c ?r14c
 case y14c => exact tY
 case r14c =>
 try simp only [Act.put,setIfInBounds_toArray,set_cons_zero,set_cons_succ]
 refine tkY 15 (some 27) ?v15c rfl ?y15c ?r15c
 case y15c => exact tY
 case r15c =>
 try simp only [Act.put,setIfInBounds_toArray,set_cons_zero,set_cons_succ]
 refine wpAnyH_done (by kernel_rfl) ?_ _
 obtain ⟨hb3V, e0, e1, e2, e3, e4, e5, e8⟩ := hHeld
 have HB3 := Lib.hid (HB0.out.below hb3V)
 have hs3 := hb3V.size
 have HBV := Lib.hid (hB0.trans (hb3V.mono (by omega)))
 have P3 := Lib.hid (P0.below hb3V hs0)
 clear hb3 hb3V hB0 d0 d1 d2 d3 d4 d5 l8 P0 HB0
 by_cases h32 : 32 ≤ L.length
 case pos =>
  have q32 : (32 : Int) ≤ (L.length : Int) := by omega
  go_wp2_with (first
   | (go_at_call 41; refine (bkLen Y b v S last L _ HB3.out HR.out HK.out hlen).mono ?_; rintro e w4 ⟨rfl, hb4⟩)
   | fail)
  refine bodyPost_ret (v := .tuple #[.slice none 0 0, .int .i64 0, .int .i64 6]) (by simp [results, Tryz.results43, go_sem, *]) rfl (.inr (.inl ⟨hok, by omega, h32, rfl, HBV.out.trans (hb4.mono HBV.out.size)⟩))
 have q32 : ¬ (32 : Int) ≤ (L.length : Int) := by omega
 go_wp2_with (first
  | (go_at_call 41; refine (bkLen Y b v S last L _ HB3.out HR.out HK.out hlen).mono ?_; rintro e w4 ⟨rfl, hb4⟩; have hs4 := hb4.size; have HB4 := Lib.hid (HB3.out.below hb4); have l8 := (HB4.out.whl.cell (Y.o + 8)).trans (Y.num v last); have f8 := HB4.out.whl.free (Y.o + 8); have d0 := bkeep hb4 e0 (by omega); have d1 := bkeep hb4 e1 (by omega); have d2 := bkeep hb4 e2 (by omega); have d3 := bkeep hb4 e3 (by omega); have d4 := bkeep hb4 e4 (by omega); have d5 := bkeep hb4 e5 (by omega); have P4 := Lib.hid (P3.out.below hb4 (by omega)); have HBW := Lib.hid (HBV.out.trans (hb4.mono HBV.out.size)); clear hb4 e0 e1 e2 e3 e4 e5 e8)
  | fail)
 have hdb : w.heap.size ≠ b := by omega
 have HB5 : Hid (BkH Y (w4.setCell ⟨b, Y.o + 8, none⟩ (.int .i64 o.id)) b v S o.id) := Lib.hid ⟨by rw [← Y.put v last o.id]; exact HB4.out.whl.set (Y.o + 8) _, fun i hi => own_set_ne (HB4.out.own i hi) (fun g hg e => HB4.out.far i hi (by rw [hg, e])), HB4.out.far, HB4.out.apart⟩
 have P5 : Hid (Whl (w4.setCell ⟨b, Y.o + 8, none⟩ (.int .i64 o.id)) w.heap.size 38 #[.int .i64 o.id, .string o.who, .bool o.buy, .int .i64 o.item, .int .i64 o.ct, .int .i64 o.pr]) := Lib.hid (P4.out.far hdb)
 have HT5 : Hid (Touch (Ft b v) w (w4.setCell ⟨b, Y.o + 8, none⟩ (.int .i64 o.id))) := Lib.hid (((Touch.of_below HBW.out).mono' (fun x hx hd => by omega)).set (fun _ => .inl rfl))
 have hs5 : w.heap.size < (w4.setCell ⟨b, Y.o + 8, none⟩ (.int .i64 o.id)).heap.size := P5.out.low
 obtain ⟨it, hit⟩ : ∃ it : Nat, o.item = (it : Int) := ⟨o.item.toNat, by have := hok.item; omega⟩
 have hi1 : 1 ≤ it := by have := hok.item; omega
 have hi3 : it ≤ 3 := by have := hok.item; omega
 have qi : (it : Int) < 4 := by omega
 have HOK := Lib.hid hok
 have HIT := Lib.hid hit
 generalize w4.setCell ⟨b, Y.o + 8, none⟩ (.int .i64 o.id) = V5 at HB5 P5 HT5 hs5 ⊢
 clear d0 d1 d2 d3 d4 d5 l8 f8 HBW HB4 P4 HB3 P3 HBV
 have d2 := P5.out.cell 2
 have d3 := P5.out.cell 3
 simp only [List.getElem?_toArray, List.getElem?_cons_succ, List.getElem?_cons_zero] at d2 d3
 rw [hit] at d3
 clear hit hok
 have hb := HBUY.out
 rw [hb]
 rw [hb] at d2
 go_region
 go_wp2_with fail
 clear d2 d3
 go_loopw [9, 10, 11] (fun tr bs nn wr => ∃ (ct : Int) (L1 : List Od) (v1 : Nat → Value) (S1 : Nat → List Od) (T : List Td) (tv : Value), tr = tv ∧ 0 ≤ ct ∧ ct ≤ o.ct ∧ Whl wr w.heap.size 38 #[.int .i64 o.id, .string o.who, .bool o.buy, .int .i64 o.item, .int .i64 ct, .int .i64 o.pr] ∧ BkH Y wr b v1 S1 o.id ∧ RelS S1 L1 ∧ Bk L1 last ∧ wr.ownsRow (w.heap.size + 1) 97 8 tv T.length (flatT T) ∧ (∀ x, tv.ownBlock = some x → ¬ Ft b v1 x) ∧ ¬ Ft b v1 w.heap.size ∧ (T.length : Int) + ct ≤ o.ct ∧ L1.length ≤ L.length ∧ Touch (Ft b v) w wr ∧ (∀ x, Ft b v1 x → Ft b v x ∨ w.heap.size < x) ∧ (∀ T' o' L', Places (o.at ct) L1 T' o' L' → Places o L (T ++ T') o' L')) (fun _ _ _ wr => ((wr.cell? ⟨w.heap.size, 4, none⟩).map intOf).getD 0 |>.toNat)
 case atStart => exact ⟨o.ct, L, v, S, [], _, rfl, by have := HOK.out.ct; omega, Int.le_refl _, P5.out, HB5.out.keep (D := fun _ => False) (Touch.of_drew _ _) (fun _ _ h => h), HR.out, HK.out, World.ownsRow_nil _ _ _ _, (fun x hx => by cases hx), (fun hx => by have := HB.out.lows _ hx; omega), by simp, Nat.le_refl _, HT5.out.drew', fun x hx => .inl hx, fun T' o' L' h => h⟩
 case round =>
  obtain ⟨ct, L1, v1, S1, T, tv, htv, h0, hct, hP, hB, hR, hK, hO, hap, hnd, hTl, hLl, hT, hF, hpl⟩ := hrel
  have htv := htv.symm
  subst htv
  have d0 := hP.cell 0
  have d1 := hP.cell 1
  have d2 := hP.cell 2
  have d3 := hP.cell 3
  have d4 := hP.cell 4
  have d5 := hP.cell 5
  simp only [List.getElem?_toArray, List.getElem?_cons_succ, List.getElem?_cons_zero] at d0 d1 d2 d3 d4 d5
  rw [hb] at d2
  have hkx : it < 8 := by omega
  have hko : (4 + it) < 8 := by omega
  have hbs := hB.whl.low
  have hds := hP.low
  have HP := Lib.hid hP
  have HB1 := Lib.hid hB
  have HR1 := Lib.hid hR
  have HK1 := Lib.hid hK
  have HO1 := Lib.hid hO
  have HAP := Lib.hid hap
  have HND := Lib.hid hnd
  have HT1 := Lib.hid hT
  have HF1 := Lib.hid hF
  have HPL := Lib.hid hpl
  have hcx := (hB.sdp hkx (p := Y.o + it) (by omega)).cell
  have hTl2 : T.length ≤ 1048576 := by have := HOK.out.ct; omega
  clear hP hB hR hK hO hap hnd hT hF hpl
  by_cases hz : 0 < ct
  case neg =>
   obtain rfl : ct = 0 := by omega
   have hnz : ¬ (0 : Int) < 0 := by omega
   go_wp2_with fail
   refine wp_region_held_drew (S := (fun W => W.cell? ⟨w.heap.size, 4, none⟩ = some (.int .i64 0))) (by kernel_rfl) d4 (fun hHeld => ?_)
   refine tkY 0 (some 52) ?v0z rfl ?y0z ?r0z
   case y0z => exact tY
   case r0z =>
   try simp only [Act.put,setIfInBounds_toArray,set_cons_zero,set_cons_succ]
   refine tkY 1 (some 53) ?v1z rfl ?y1z ?r1z
   case y1z => exact tY
   case r1z =>
   try simp only [Act.put,setIfInBounds_toArray,set_cons_zero,set_cons_succ]
   refine tkY 2 (some 54) ?v2z rfl ?y2z ?r2z
   case y2z => exact tY
   case r2z =>
   try simp only [Act.put,setIfInBounds_toArray,set_cons_zero,set_cons_succ]
   refine tkY 3 (some 55) ?v3z rfl ?y3z ?r3z
   case y3z => exact tY
   case r3z =>
   try simp only [Act.put,setIfInBounds_toArray,set_cons_zero,set_cons_succ]
   refine tkN 4 (some 56) rfl ?_
   try simp only [Act.put,setIfInBounds_toArray,set_cons_zero,set_cons_succ]
   refine tkN 5 (some 57) rfl ?_
   try simp only [Act.put,setIfInBounds_toArray,set_cons_zero,set_cons_succ]
   refine tkN 6 (some 58) rfl ?_
   try simp only [Act.put,setIfInBounds_toArray,set_cons_zero,set_cons_succ]
   refine tkN 7 (some 59) rfl ?_
   try simp only [Act.put,setIfInBounds_toArray,set_cons_zero,set_cons_succ]
   refine tkN 8 (some 60) rfl ?_
   try simp only [Act.put,setIfInBounds_toArray,set_cons_zero,set_cons_succ]
   refine tkY 9 (some 61) ?v9z rfl ?y9z ?r9z
   case y9z => exact tY
   case r9z =>
   try simp only [Act.put,setIfInBounds_toArray,set_cons_zero,set_cons_succ]
   refine tkY 10 (some 62) ?v10z rfl ?y10z ?r10z
   case y10z => exact tY
   case r10z =>
   try simp only [Act.put,setIfInBounds_toArray,set_cons_zero,set_cons_succ]
   refine tkN 11 (some 63) rfl ?_
   try simp only [Act.put,setIfInBounds_toArray,set_cons_zero,set_cons_succ]
   refine tkN 12 (some 64) rfl ?_
   try simp only [Act.put,setIfInBounds_toArray,set_cons_zero,set_cons_succ]
   refine tkN 13 (some 65) rfl ?_
   try simp only [Act.put,setIfInBounds_toArray,set_cons_zero,set_cons_succ]
   refine tkN 14 (some 66) rfl ?_
   try simp only [Act.put,setIfInBounds_toArray,set_cons_zero,set_cons_succ]
   refine tkN 15 (some 67) rfl ?_
   try simp only [Act.put,setIfInBounds_toArray,set_cons_zero,set_cons_succ]
   refine tkN 16 (some 68) rfl ?_
   try simp only [Act.put,setIfInBounds_toArray,set_cons_zero,set_cons_succ]
   refine tkN 17 (some 69) rfl ?_
   try simp only [Act.put,setIfInBounds_toArray,set_cons_zero,set_cons_succ]
   refine tkY 18 (some 70) ?v18z rfl ?y18z ?r18z
   case y18z => exact tY
   case r18z =>
   try simp only [Act.put,setIfInBounds_toArray,set_cons_zero,set_cons_succ]
   refine wpAnyH_done (by kernel_rfl) ?_ _
   go_wp2_with fail
   go_region
   go_wp2_with fail
   refine bodyPost_ret (v := .tuple #[tv, .int .i64 0, .int .i64 0]) (by simp [results, Tryz.results43, go_sem, *]) rfl (.inr (.inr ⟨HOK.out, by omega, by omega, T, o.at 0, L1, v1, S1, tv, by have := HPL.out [] _ _ (.done _ _ (.inl (Int.le_refl 0))); simpa using this, hTl2, rfl, HB1.out.keep (D := fun _ => False) (Touch.refl _ _).drew'.drew' (fun _ _ h => h), HR1.out, HO1.out.mono (by omega), HAP.out, HT1.out.drew'.drew', fun x hx => (HF1.out x hx).imp id Nat.le_of_lt⟩))
  have q0 : (0 : Int) < ct := hz
  cases hS : S1 it with
  | nil =>
   have HNM : Hid (NoneMeets (o.at ct) L1) := Lib.hid (top_none HR1.out HK1.out (o := o.at ct) hi1 hi3 HIT.out (by show S1 (sIdx (!o.buy) it) = []; rw [hb]; exact hS))
   have ho := HB1.out.own it hkx
   rw [hS] at ho
   obtain ⟨Ax, cx, hvx, _, _, _⟩ := own_slice ho
   rw [hvx] at hcx
   clear ho hvx
   simp only [List.length_nil] at hcx
   go_wp2_with fail
   refine wp_region_held_drew (S := (fun W => W.cell? ⟨w.heap.size, 4, none⟩ = some (.int .i64 ct) ∧ W.cell? ⟨b, Y.o + it, none⟩ = some (.slice Ax 0 cx))) (by kernel_rfl) ⟨d4, hcx⟩ (fun hHeld => ?_)
   refine tkY 0 (some 52) ?v0n rfl ?y0n ?r0n
   case y0n => exact tY
   case r0n =>
   try simp only [Act.put,setIfInBounds_toArray,set_cons_zero,set_cons_succ]
   refine tkY 1 (some 53) ?v1n rfl ?y1n ?r1n
   case y1n => exact tY
   case r1n =>
   try simp only [Act.put,setIfInBounds_toArray,set_cons_zero,set_cons_succ]
   refine tkY 2 (some 54) ?v2n rfl ?y2n ?r2n
   case y2n => exact tY
   case r2n =>
   try simp only [Act.put,setIfInBounds_toArray,set_cons_zero,set_cons_succ]
   refine tkY 3 (some 55) ?v3n rfl ?y3n ?r3n
   case y3n => exact tY
   case r3n =>
   try simp only [Act.put,setIfInBounds_toArray,set_cons_zero,set_cons_succ]
   refine tkY 4 (some 56) ?v4n rfl ?y4n ?r4n
   case y4n => exact tY
   case r4n =>
   try simp only [Act.put,setIfInBounds_toArray,set_cons_zero,set_cons_succ]
   refine tkY 5 (some 57) ?v5n rfl ?y5n ?r5n
   case y5n => exact tY
   case r5n =>
   try simp only [Act.put,setIfInBounds_toArray,set_cons_zero,set_cons_succ]
   refine tkY 6 (some 58) ?v6n rfl ?y6n ?r6n
   case y6n => exact tY
   case r6n =>
   try simp only [Act.put,setIfInBounds_toArray,set_cons_zero,set_cons_succ]
   refine tkY 7 (some 59) ?v7n rfl ?y7n ?r7n
   case y7n => exact tY
   case r7n =>
   try simp only [Act.put,setIfInBounds_toArray,set_cons_zero,set_cons_succ]
   refine tkY 8 (some 60) ?v8n rfl ?y8n ?r8n
   case y8n => exact tY
   case r8n =>
   try simp only [Act.put,setIfInBounds_toArray,set_cons_zero,set_cons_succ]
   refine tkY 9 (some 61) ?v9n rfl ?y9n ?r9n
   case y9n => exact tY
   case r9n =>
   try simp only [Act.put,setIfInBounds_toArray,set_cons_zero,set_cons_succ]
   refine tkY 10 (some 62) ?v10n rfl ?y10n ?r10n
   case y10n => exact tY
   case r10n =>
   try simp only [Act.put,setIfInBounds_toArray,set_cons_zero,set_cons_succ]
   refine tkN 11 (some 63) rfl ?_
   try simp only [Act.put,setIfInBounds_toArray,set_cons_zero,set_cons_succ]
   refine tkN 12 (some 64) rfl ?_
   try simp only [Act.put,setIfInBounds_toArray,set_cons_zero,set_cons_succ]
   refine tkN 13 (some 65) rfl ?_
   try simp only [Act.put,setIfInBounds_toArray,set_cons_zero,set_cons_succ]
   refine tkN 14 (some 66) rfl ?_
   try simp only [Act.put,setIfInBounds_toArray,set_cons_zero,set_cons_succ]
   refine tkN 15 (some 67) rfl ?_
   try simp only [Act.put,setIfInBounds_toArray,set_cons_zero,set_cons_succ]
   refine tkN 16 (some 68) rfl ?_
   try simp only [Act.put,setIfInBounds_toArray,set_cons_zero,set_cons_succ]
   refine tkN 17 (some 69) rfl ?_
   try simp only [Act.put,setIfInBounds_toArray,set_cons_zero,set_cons_succ]
   refine tkY 18 (some 70) ?v18n rfl ?y18n ?r18n
   case y18n => exact tY
   case r18n =>
   try simp only [Act.put,setIfInBounds_toArray,set_cons_zero,set_cons_succ]
   refine wpAnyH_done (by kernel_rfl) ?_ _
   go_wp2_with fail
   have hsame : Touch (fun _ => False) wr wr.drew := (Touch.refl _ _).drew'
   have HBW : Hid (BkH Y (wr.drew) b v1 S1 o.id) := Lib.hid (HB1.out.keep hsame (fun _ _ h => h))
   have HOW : Hid ((wr.drew).ownsRow (w.heap.size + 1) 97 8 tv T.length (flatT T)) := Lib.hid (hsame.own HO1.out (fun _ _ h => h))
   have HTW : Hid (Touch (Ft b v) w (wr.drew)) := Lib.hid (HT1.out.trans hsame (fun _ _ h => h.elim))
   have HPW : Hid (Whl (wr.drew) w.heap.size 38 #[.int .i64 o.id, .string o.who, .bool o.buy, .int .i64 o.item, .int .i64 ct, .int .i64 o.pr]) := Lib.hid ((hsame.block _ HP.out.low (fun h => h)).trans HP.out)
   have hsw := hsame.size
   clear hsame
   have HQ : Hid (SideQ false (S1 (4 + it) ++ [⟨o.id, o.who, false, o.item, ct, o.pr⟩])) := Lib.hid (by
    intro y hy
    rcases List.mem_append.1 hy with hy | hy
    · exact HR1.out.q HK1.out (bb := false) hi1 hi3 y hy
    · simp only [List.mem_singleton] at hy; subst hy; exact ⟨rfl, HOK.out.id⟩)
   have hoe : o.at ct = ⟨o.id, o.who, false, o.item, ct, o.pr⟩ := by unfold Od.at; rw [hb]
   have HOE := Lib.hid hoe
   clear hoe
   have hlo : (S1 (4 + it)).length < 1000 := by
    have h1 := (HR1.out (4 + it) hko).1.length_eq
    have h2 := List.length_filter_le (sideP (4 + it)) L1
    omega
   go_wp2_with (first
    | (go_at_call 88; refine (heapPush b (Y.o + 4 + it) Y.T (Y.C v1 o.id) false (S1 (4 + it)) (v1 (4 + it)) ⟨o.id, o.who, false, o.item, ct, o.pr⟩ _ (HBW.out.sdp hko (p := Y.o + 4 + it) (by omega)) HQ.out (HR1.out (4 + it) hko).2 hlo).mono ?_; rintro e w5 ⟨rfl, v5, l5, hp5, hh5, hS5, hT5, hb5⟩; have hs5 := hT5.size; rw [← HOE.out] at hp5; have p4 := Whl.cell ((hT5.block _ HPW.out.low (by rintro (h | h); exact HND.out (.inl h); exact HND.out (.inr ⟨_, hko, h⟩))).trans HPW.out) 4; simp only [List.getElem?_toArray, List.getElem?_cons_succ, List.getElem?_cons_zero] at p4; have HP5 := Lib.hid hp5; have HH5 := Lib.hid hh5; have HS5 := Lib.hid hS5; have HT5' := Lib.hid hT5; have HB5' := Lib.hid hb5; clear hp5 hh5 hS5 hT5 hb5)
    | fail)
   go_region
   go_wp2_with fail
   have hturn := HBW.out.turnp hko (p := Y.o + 4 + it) (by omega) HS5.out HT5'.out HB5'.out
   have hrel := HR1.out.more (o := o.at ct) HOK.out.item hko (by simp [sideP, Od.at, hb, HIT.out]; try omega) HP5.out HH5.out
   have hlaid : laid (o.at ct) L1 = L1 ++ [o.at ct] := if_pos hz
   have hdr : Touch (fun _ => False) w5 w5.drew := (Touch.refl _ _).drew'
   refine bodyPost_ret (v := .tuple #[tv, .int .i64 ct, .int .i64 0]) (by simp [results, Tryz.results43, go_sem, *]) rfl (.inr (.inr ⟨HOK.out, by omega, by omega, T, o.at ct, L1, _, _, tv, by have := HPL.out [] _ _ (.done _ _ (.inr HNM.out)); simpa using this, hTl2, rfl, hturn.1.keep hdr (fun _ _ h => h), by rw [hlaid]; exact hrel, (hdr.own (HT5'.out.own HOW.out (by rintro g hg (h | h); exact HAP.out g hg (.inl h); exact HAP.out g hg (.inr ⟨_, hko, h⟩))) (fun _ _ h => h)).mono (by omega), fun x hx hf => ?_, ((HTW.out.trans hturn.2.1 (fun x hx hf => ?_)).trans hdr (fun _ _ h => h.elim)), fun x hx => ?_⟩))
   ·
    rcases hturn.2.2 x hf with h | h
    · exact HAP.out x hx h
    · have := (HOW.out.lt x hx).2; omega
   ·
    rcases HF1.out x hf with h | h
    · exact h
    · omega
   ·
    rcases hturn.2.2 x hx with h | h
    · exact (HF1.out x h).imp id Nat.le_of_lt
    · exact .inr (by have := HTW.out.size; omega)
  | cons x r =>
   have hox := HB1.out.own (it) hkx
   have hfx := HB1.out.far (it) hkx
   rw [hS] at hox
   obtain ⟨gx, cx, hvx, _, hgx, _, _⟩ := own_form hox (Nat.succ_pos _)
   rw [hvx] at hcx hox hfx
   simp only [List.length_cons] at hcx hox
   have hgb : gx ≠ b := fun e => hfx (by rw [← e]; rfl)
   have hgd : gx ≠ w.heap.size := fun e => HND.out (.inr ⟨it, hkx, by rw [hvx, ← e]; rfl⟩)
   have q2 : (0 : Int) < ((r.length + 1 : Nat) : Int) := by omega
   have q3 : (0 : Int) < ((r.length : Nat) : Int) + 1 := by omega
   have x0 : wr.cell? ⟨gx, 0, none⟩ = some (.int .i64 x.id) := by have := hox.cellAt 0 (by omega); simpa [flatO, odV] using this
   have x1 : wr.cell? ⟨gx, 1, none⟩ = some (.string x.who) := by have := hox.cellAt 1 (by omega); simpa [flatO, odV] using this
   have x2 : wr.cell? ⟨gx, 2, none⟩ = some (.bool x.buy) := by have := hox.cellAt 2 (by omega); simpa [flatO, odV] using this
   have x3 : wr.cell? ⟨gx, 3, none⟩ = some (.int .i64 x.item) := by have := hox.cellAt 3 (by omega); simpa [flatO, odV] using this
   have x4 : wr.cell? ⟨gx, 4, none⟩ = some (.int .i64 x.ct) := by have := hox.cellAt 4 (by omega); simpa [flatO, odV] using this
   have x5 : wr.cell? ⟨gx, 5, none⟩ = some (.int .i64 x.pr) := by have := hox.cellAt 5 (by omega); simpa [flatO, odV] using this
   have HVX := Lib.hid hvx
   have HOX := Lib.hid hox
   clear hvx hox hfx
   have hoe : o.at ct = (⟨o.id, o.who, false, o.item, ct, o.pr⟩ : Od) := by unfold Od.at; rw [hb]
   have HOE0 := Lib.hid hoe
   clear hoe
   by_cases hmt : meetP (o.at ct) x = true
   case neg =>
    have HMT : Hid (meetP (⟨o.id, o.who, false, o.item, ct, o.pr⟩ : Od) x = false) := Lib.hid (by rw [← HOE0.out]; simpa using hmt)
    have HNM : Hid (NoneMeets (o.at ct) L1) := Lib.hid (top_no HR1.out HK1.out (o := o.at ct) (x := x) (r := r) hi1 hi3 HIT.out (by show S1 (sIdx (!o.buy) it) = _; rw [hb]; exact hS) (by simpa using hmt))
    clear hmt
    go_wp2_with fail
    refine wp_region_held_drew (S := (fun W => Below wr.heap.size wr W ∧ W.cell? ⟨w.heap.size, 0, none⟩ = some (.int .i64 o.id) ∧ W.cell? ⟨w.heap.size, 1, none⟩ = some (.string o.who) ∧ W.cell? ⟨w.heap.size, 2, none⟩ = some (.bool false) ∧ W.cell? ⟨w.heap.size, 3, none⟩ = some (.int .i64 o.item) ∧ W.cell? ⟨w.heap.size, 4, none⟩ = some (.int .i64 ct) ∧ W.cell? ⟨w.heap.size, 5, none⟩ = some (.int .i64 o.pr) ∧ W.cell? ⟨b, Y.o + it, none⟩ = some (.slice (some ⟨gx, 0, none⟩) (r.length + 1) cx) ∧ W.cell? ⟨gx, 0, none⟩ = some (.int .i64 x.id) ∧ W.cell? ⟨gx, 1, none⟩ = some (.string x.who) ∧ W.cell? ⟨gx, 2, none⟩ = some (.bool x.buy) ∧ W.cell? ⟨gx, 3, none⟩ = some (.int .i64 x.item) ∧ W.cell? ⟨gx, 4, none⟩ = some (.int .i64 x.ct) ∧ W.cell? ⟨gx, 5, none⟩ = some (.int .i64 x.pr))) (by kernel_rfl) ⟨(Below.refl _ _).drew, d0, d1, d2, d3, d4, d5, hcx, x0, x1, x2, x3, x4, x5⟩ (fun hHeld => ?_)
    refine tkY 0 (some 52) ?v0q rfl ?y0q ?r0q
    case y0q => exact tY
    case r0q =>
    try simp only [Act.put,setIfInBounds_toArray,set_cons_zero,set_cons_succ]
    refine tkY 1 (some 53) ?v1q rfl ?y1q ?r1q
    case y1q => exact tY
    case r1q =>
    try simp only [Act.put,setIfInBounds_toArray,set_cons_zero,set_cons_succ]
    refine tkY 2 (some 54) ?v2q rfl ?y2q ?r2q
    case y2q => exact tY
    case r2q =>
    try simp only [Act.put,setIfInBounds_toArray,set_cons_zero,set_cons_succ]
    refine tkY 3 (some 55) ?v3q rfl ?y3q ?r3q
    case y3q => exact tY
    case r3q =>
    try simp only [Act.put,setIfInBounds_toArray,set_cons_zero,set_cons_succ]
    refine tkY 4 (some 56) ?v4q rfl ?y4q ?r4q
    case y4q => exact tY
    case r4q =>
    try simp only [Act.put,setIfInBounds_toArray,set_cons_zero,set_cons_succ]
    refine tkY 5 (some 57) ?v5q rfl ?y5q ?r5q
    case y5q => exact tY
    case r5q =>
    try simp only [Act.put,setIfInBounds_toArray,set_cons_zero,set_cons_succ]
    refine tkY 6 (some 58) ?v6q rfl ?y6q ?r6q
    case y6q => exact tY
    case r6q =>
    try simp only [Act.put,setIfInBounds_toArray,set_cons_zero,set_cons_succ]
    refine tkY 7 (some 59) ?v7q rfl ?y7q ?r7q
    case y7q => exact tY
    case r7q =>
    try simp only [Act.put,setIfInBounds_toArray,set_cons_zero,set_cons_succ]
    refine tkY 8 (some 60) ?v8q rfl ?y8q ?r8q
    case y8q => exact tY
    case r8q =>
    try simp only [Act.put,setIfInBounds_toArray,set_cons_zero,set_cons_succ]
    refine tkY 9 (some 61) ?v9q rfl ?y9q ?r9q
    case y9q => exact tY
    case r9q =>
    try simp only [Act.put,setIfInBounds_toArray,set_cons_zero,set_cons_succ]
    refine tkY 10 (some 62) ?v10q rfl ?y10q ?r10q
    case y10q => exact tY
    case r10q =>
    try simp only [Act.put,setIfInBounds_toArray,set_cons_zero,set_cons_succ]
    refine tkY 11 (some 63) ?v11q rfl ?y11q ?r11q
    case y11q => exact tY
    case r11q =>
    try simp only [Act.put,setIfInBounds_toArray,set_cons_zero,set_cons_succ]
    refine tkY 12 (some 64) ?v12q rfl ?y12q ?r12q
    case y12q => exact tY
    case r12q =>
    try simp only [Act.put,setIfInBounds_toArray,set_cons_zero,set_cons_succ]
    refine tkY 13 (some 65) ?v13q rfl ?y13q ?r13q
    case y13q => exact tY
    case r13q =>
    try simp only [Act.put,setIfInBounds_toArray,set_cons_zero,set_cons_succ]
    refine tkY 14 (some 66) ?v14q rfl ?y14q ?r14q
    case y14q => exact tY
    case r14q =>
    try simp only [Act.put,setIfInBounds_toArray,set_cons_zero,set_cons_succ]
    refine tkY 15 (some 67) ?v15q rfl ?y15q ?r15q
    case y15q => exact tY
    case r15q =>
    try simp only [Act.put,setIfInBounds_toArray,set_cons_zero,set_cons_succ]
    refine tkY 16 (some 68) ?v16q rfl ?y16q ?r16q
    case y16q => exact tY
    case r16q =>
    try simp only [Act.put,setIfInBounds_toArray,set_cons_zero,set_cons_succ]
    refine wpAnyH_ready (rs := [17]) (by kernel_rfl) (by simp) ?_
    refine AllReadyH.cons (o := ⟨some 69, _, _, _, _, _⟩) rfl (fun K hK => ?_) AllReadyH.nil
    go_simp
    refine (bkMeet (⟨o.id, o.who, false, o.item, ct, o.pr⟩ : Od) x _).mono ?_; rintro e w3 ⟨he, hb3⟩; rw [HMT.out] at he; subst he
    go_wp2_with fail
    refine hK.out _ _ (by have hh := Below.trans hHeld.1 (Below.mono hb3 (Below.size hHeld.1)); exact ⟨hh, bkeep hh d0 (by omega), bkeep hh d1 (by omega), bkeep hh d2 (by omega), bkeep hh d3 (by omega), bkeep hh d4 (by omega), bkeep hh d5 (by omega), bkeep hh hcx (by omega), bkeep hh x0 (by omega), bkeep hh x1 (by omega), bkeep hh x2 (by omega), bkeep hh x3 (by omega), bkeep hh x4 (by omega), bkeep hh x5 (by omega)⟩) (fun hHeld => ?_)
    clear hK K
    try simp only [Act.put,setIfInBounds_toArray,set_cons_zero,set_cons_succ]
    refine tkY 18 (some 70) ?v18q rfl ?y18q ?r18q
    case y18q => exact tY
    case r18q =>
    try simp only [Act.put,setIfInBounds_toArray,set_cons_zero,set_cons_succ]
    refine wpAnyH_done (by kernel_rfl) ?_ _
    have hsame : Touch (fun _ => False) wr w3 := (Touch.of_below hHeld.1).mono' (fun k hk hd => by omega)
    obtain ⟨_, d0, d1, d2, d3, d4, d5, hcx, x0, x1, x2, x3, x4, x5⟩ := hHeld
    clear hb3
    have HBW : Hid (BkH Y (w3) b v1 S1 o.id) := Lib.hid (HB1.out.keep hsame (fun _ _ h => h))
    have HOW : Hid ((w3).ownsRow (w.heap.size + 1) 97 8 tv T.length (flatT T)) := Lib.hid (hsame.own HO1.out (fun _ _ h => h))
    have HTW : Hid (Touch (Ft b v) w (w3)) := Lib.hid (HT1.out.trans hsame (fun _ _ h => h.elim))
    have HPW : Hid (Whl (w3) w.heap.size 38 #[.int .i64 o.id, .string o.who, .bool o.buy, .int .i64 o.item, .int .i64 ct, .int .i64 o.pr]) := Lib.hid ((hsame.block _ HP.out.low (fun h => h)).trans HP.out)
    have hsw := hsame.size
    clear hsame
    have HQ : Hid (SideQ false (S1 (4 + it) ++ [⟨o.id, o.who, false, o.item, ct, o.pr⟩])) := Lib.hid (by
     intro y hy
     rcases List.mem_append.1 hy with hy | hy
     · exact HR1.out.q HK1.out (bb := false) hi1 hi3 y hy
     · simp only [List.mem_singleton] at hy; subst hy; exact ⟨rfl, HOK.out.id⟩)
    have hoe : o.at ct = ⟨o.id, o.who, false, o.item, ct, o.pr⟩ := by unfold Od.at; rw [hb]
    have HOE := Lib.hid hoe
    clear hoe
    have hlo : (S1 (4 + it)).length < 1000 := by
     have h1 := (HR1.out (4 + it) hko).1.length_eq
     have h2 := List.length_filter_le (sideP (4 + it)) L1
     omega
    go_wp2_with (first
     | (go_at_call 88; refine (heapPush b (Y.o + 4 + it) Y.T (Y.C v1 o.id) false (S1 (4 + it)) (v1 (4 + it)) ⟨o.id, o.who, false, o.item, ct, o.pr⟩ _ (HBW.out.sdp hko (p := Y.o + 4 + it) (by omega)) HQ.out (HR1.out (4 + it) hko).2 hlo).mono ?_; rintro e w5 ⟨rfl, v5, l5, hp5, hh5, hS5, hT5, hb5⟩; have hs5 := hT5.size; rw [← HOE.out] at hp5; have p4 := Whl.cell ((hT5.block _ HPW.out.low (by rintro (h | h); exact HND.out (.inl h); exact HND.out (.inr ⟨_, hko, h⟩))).trans HPW.out) 4; simp only [List.getElem?_toArray, List.getElem?_cons_succ, List.getElem?_cons_zero] at p4; have HP5 := Lib.hid hp5; have HH5 := Lib.hid hh5; have HS5 := Lib.hid hS5; have HT5' := Lib.hid hT5; have HB5' := Lib.hid hb5; clear hp5 hh5 hS5 hT5 hb5)
     | fail)
    go_region
    go_wp2_with fail
    have hturn := HBW.out.turnp hko (p := Y.o + 4 + it) (by omega) HS5.out HT5'.out HB5'.out
    have hrel := HR1.out.more (o := o.at ct) HOK.out.item hko (by simp [sideP, Od.at, hb, HIT.out]; try omega) HP5.out HH5.out
    have hlaid : laid (o.at ct) L1 = L1 ++ [o.at ct] := if_pos hz
    have hdr : Touch (fun _ => False) w5 w5.drew := (Touch.refl _ _).drew'
    refine bodyPost_ret (v := .tuple #[tv, .int .i64 ct, .int .i64 0]) (by simp [results, Tryz.results43, go_sem, *]) rfl (.inr (.inr ⟨HOK.out, by omega, by omega, T, o.at ct, L1, _, _, tv, by have := HPL.out [] _ _ (.done _ _ (.inr HNM.out)); simpa using this, hTl2, rfl, hturn.1.keep hdr (fun _ _ h => h), by rw [hlaid]; exact hrel, (hdr.own (HT5'.out.own HOW.out (by rintro g hg (h | h); exact HAP.out g hg (.inl h); exact HAP.out g hg (.inr ⟨_, hko, h⟩))) (fun _ _ h => h)).mono (by omega), fun x hx hf => ?_, ((HTW.out.trans hturn.2.1 (fun x hx hf => ?_)).trans hdr (fun _ _ h => h.elim)), fun x hx => ?_⟩))
    ·
     rcases hturn.2.2 x hf with h | h
     · exact HAP.out x hx h
     · have := (HOW.out.lt x hx).2; omega
    ·
     rcases HF1.out x hf with h | h
     · exact h
     · omega
    ·
     rcases hturn.2.2 x hx with h | h
     · exact (HF1.out x h).imp id Nat.le_of_lt
     · exact .inr (by have := HTW.out.size; omega)
   have HMT : Hid (meetP (⟨o.id, o.who, false, o.item, ct, o.pr⟩ : Od) x = true) := Lib.hid (by rw [← HOE0.out]; exact hmt)
   have HBST : Hid (Best (o.at ct) x L1) := Lib.hid (top_best HR1.out HK1.out (o := o.at ct) (x := x) (r := r) hi1 hi3 HIT.out (by show S1 (sIdx (!o.buy) it) = _; rw [hb]; exact hS) hmt)
   clear hmt
   go_wp2_with fail
   refine wp_region_held_drew (S := (fun W => Below wr.heap.size wr W ∧ W.cell? ⟨w.heap.size, 0, none⟩ = some (.int .i64 o.id) ∧ W.cell? ⟨w.heap.size, 1, none⟩ = some (.string o.who) ∧ W.cell? ⟨w.heap.size, 2, none⟩ = some (.bool false) ∧ W.cell? ⟨w.heap.size, 3, none⟩ = some (.int .i64 o.item) ∧ W.cell? ⟨w.heap.size, 4, none⟩ = some (.int .i64 ct) ∧ W.cell? ⟨w.heap.size, 5, none⟩ = some (.int .i64 o.pr) ∧ W.cell? ⟨b, Y.o + it, none⟩ = some (.slice (some ⟨gx, 0, none⟩) (r.length + 1) cx) ∧ W.cell? ⟨gx, 0, none⟩ = some (.int .i64 x.id) ∧ W.cell? ⟨gx, 1, none⟩ = some (.string x.who) ∧ W.cell? ⟨gx, 2, none⟩ = some (.bool x.buy) ∧ W.cell? ⟨gx, 3, none⟩ = some (.int .i64 x.item) ∧ W.cell? ⟨gx, 4, none⟩ = some (.int .i64 x.ct) ∧ W.cell? ⟨gx, 5, none⟩ = some (.int .i64 x.pr))) (by kernel_rfl) ⟨(Below.refl _ _).drew, d0, d1, d2, d3, d4, d5, hcx, x0, x1, x2, x3, x4, x5⟩ (fun hHeld => ?_)
   refine tkY 0 (some 52) ?v0r rfl ?y0r ?r0r
   case y0r => exact tY
   case r0r =>
   try simp only [Act.put,setIfInBounds_toArray,set_cons_zero,set_cons_succ]
   refine tkY 1 (some 53) ?v1r rfl ?y1r ?r1r
   case y1r => exact tY
   case r1r =>
   try simp only [Act.put,setIfInBounds_toArray,set_cons_zero,set_cons_succ]
   refine tkY 2 (some 54) ?v2r rfl ?y2r ?r2r
   case y2r => exact tY
   case r2r =>
   try simp only [Act.put,setIfInBounds_toArray,set_cons_zero,set_cons_succ]
   refine tkY 3 (some 55) ?v3r rfl ?y3r ?r3r
   case y3r => exact tY
   case r3r =>
   try simp only [Act.put,setIfInBounds_toArray,set_cons_zero,set_cons_succ]
   refine tkY 4 (some 56) ?v4r rfl ?y4r ?r4r
   case y4r => exact tY
   case r4r =>
   try simp only [Act.put,setIfInBounds_toArray,set_cons_zero,set_cons_succ]
   refine tkY 5 (some 57) ?v5r rfl ?y5r ?r5r
   case y5r => exact tY
   case r5r =>
   try simp only [Act.put,setIfInBounds_toArray,set_cons_zero,set_cons_succ]
   refine tkY 6 (some 58) ?v6r rfl ?y6r ?r6r
   case y6r => exact tY
   case r6r =>
   try simp only [Act.put,setIfInBounds_toArray,set_cons_zero,set_cons_succ]
   refine tkY 7 (some 59) ?v7r rfl ?y7r ?r7r
   case y7r => exact tY
   case r7r =>
   try simp only [Act.put,setIfInBounds_toArray,set_cons_zero,set_cons_succ]
   refine tkY 8 (some 60) ?v8r rfl ?y8r ?r8r
   case y8r => exact tY
   case r8r =>
   try simp only [Act.put,setIfInBounds_toArray,set_cons_zero,set_cons_succ]
   refine tkY 9 (some 61) ?v9r rfl ?y9r ?r9r
   case y9r => exact tY
   case r9r =>
   try simp only [Act.put,setIfInBounds_toArray,set_cons_zero,set_cons_succ]
   refine tkY 10 (some 62) ?v10r rfl ?y10r ?r10r
   case y10r => exact tY
   case r10r =>
   try simp only [Act.put,setIfInBounds_toArray,set_cons_zero,set_cons_succ]
   refine tkY 11 (some 63) ?v11r rfl ?y11r ?r11r
   case y11r => exact tY
   case r11r =>
   try simp only [Act.put,setIfInBounds_toArray,set_cons_zero,set_cons_succ]
   refine tkY 12 (some 64) ?v12r rfl ?y12r ?r12r
   case y12r => exact tY
   case r12r =>
   try simp only [Act.put,setIfInBounds_toArray,set_cons_zero,set_cons_succ]
   refine tkY 13 (some 65) ?v13r rfl ?y13r ?r13r
   case y13r => exact tY
   case r13r =>
   try simp only [Act.put,setIfInBounds_toArray,set_cons_zero,set_cons_succ]
   refine tkY 14 (some 66) ?v14r rfl ?y14r ?r14r
   case y14r => exact tY
   case r14r =>
   try simp only [Act.put,setIfInBounds_toArray,set_cons_zero,set_cons_succ]
   refine tkY 15 (some 67) ?v15r rfl ?y15r ?r15r
   case y15r => exact tY
   case r15r =>
   try simp only [Act.put,setIfInBounds_toArray,set_cons_zero,set_cons_succ]
   refine tkY 16 (some 68) ?v16r rfl ?y16r ?r16r
   case y16r => exact tY
   case r16r =>
   try simp only [Act.put,setIfInBounds_toArray,set_cons_zero,set_cons_succ]
   refine wpAnyH_ready (rs := [17]) (by kernel_rfl) (by simp) ?_
   refine AllReadyH.cons (o := ⟨some 69, _, _, _, _, _⟩) rfl (fun K hK => ?_) AllReadyH.nil
   go_simp
   refine (bkMeet (⟨o.id, o.who, false, o.item, ct, o.pr⟩ : Od) x _).mono ?_; rintro e w3 ⟨he, hb3⟩; rw [HMT.out] at he; subst he
   go_wp2_with fail
   refine hK.out _ _ (by have hh := Below.trans hHeld.1 (Below.mono hb3 (Below.size hHeld.1)); exact ⟨hh, bkeep hh d0 (by omega), bkeep hh d1 (by omega), bkeep hh d2 (by omega), bkeep hh d3 (by omega), bkeep hh d4 (by omega), bkeep hh d5 (by omega), bkeep hh hcx (by omega), bkeep hh x0 (by omega), bkeep hh x1 (by omega), bkeep hh x2 (by omega), bkeep hh x3 (by omega), bkeep hh x4 (by omega), bkeep hh x5 (by omega)⟩) (fun hHeld => ?_)
   clear hK K
   try simp only [Act.put,setIfInBounds_toArray,set_cons_zero,set_cons_succ]
   refine tkY 18 (some 70) ?v18r rfl ?y18r ?r18r
   case y18r => exact tY
   case r18r =>
   try simp only [Act.put,setIfInBounds_toArray,set_cons_zero,set_cons_succ]
   refine wpAnyH_done (by kernel_rfl) ?_ _
   have hsame : Touch (fun _ => False) wr w3 := (Touch.of_below hHeld.1).mono' (fun k hk hd => by omega)
   have hs3 := hHeld.1.size
   obtain ⟨_, d0, d1, d2, d3, d4, d5, hcx, x0, x1, x2, x3, x4, x5⟩ := hHeld
   clear hb3
   obtain ⟨n, hn⟩ : ∃ n, n = mn ct x.ct := ⟨_, rfl⟩
   have HN : Hid ((if x.ct < ct then x.ct else ct) = n) := Lib.hid (by rw [hn]; unfold mn; split <;> split <;> omega)
   have hn1 : 1 ≤ n := by rw [hn]; exact mn_pos (by omega) (HK1.out.ok x HBST.out.1).ct.1
   have hn2 : n ≤ ct ∧ n ≤ x.ct := by rw [hn]; exact mn_le
   have HNE := Lib.hid hn
   have hxc := (HK1.out.ok x HBST.out.1).ct
   have hoc := HOK.out.ct
   clear hn
   go_wp2_with fail
   refine wp_region_held_drew (S := (fun W => W.cell? ⟨w.heap.size, 4, none⟩ = some (.int .i64 ct) ∧ W.cell? ⟨gx, 4, none⟩ = some (.int .i64 x.ct))) (by kernel_rfl) ⟨d4, x4⟩ (fun hHeld => ?_)
   refine tkY 0 (some 75) ?v0m rfl ?y0m ?r0m
   case y0m => exact tY
   case r0m =>
   try simp only [Act.put,setIfInBounds_toArray,set_cons_zero,set_cons_succ]
   refine tkY 1 (some 76) ?v1m rfl ?y1m ?r1m
   case y1m => exact tY
   case r1m =>
   try simp only [Act.put,setIfInBounds_toArray,set_cons_zero,set_cons_succ]
   refine tkY 2 (some 77) ?v2m rfl ?y2m ?r2m
   case y2m => exact tY
   case r2m =>
   try simp only [Act.put,setIfInBounds_toArray,set_cons_zero,set_cons_succ]
   refine tkY 3 (some 78) ?v3m rfl ?y3m ?r3m
   case y3m => exact tY
   case r3m =>
   try simp only [Act.put,setIfInBounds_toArray,set_cons_zero,set_cons_succ]
   refine tkY 4 (some 79) ?v4m rfl ?y4m ?r4m
   case y4m => exact tY
   case r4m =>
   try simp only [Act.put,setIfInBounds_toArray,set_cons_zero,set_cons_succ]
   refine tkY 5 (some 80) ?v5m rfl ?y5m ?r5m
   case y5m => exact tY
   case r5m =>
   try simp only [Act.put,setIfInBounds_toArray,set_cons_zero,set_cons_succ]
   refine wpAnyH_ready (rs := [6]) (by kernel_rfl) (by simp) ?_
   refine AllReadyH.cons (o := ⟨some 81, _, _, _, _, _⟩) rfl (fun K hK => ?_) AllReadyH.nil
   go_simp
   rw [HN.out]
   refine hK.out _ _ hHeld (fun hHeld => ?_)
   clear hK K
   try simp only [Act.put,setIfInBounds_toArray,set_cons_zero,set_cons_succ]
   refine tkY 7 (some 11) ?v7m rfl ?y7m ?r7m
   case y7m => exact tY
   case r7m =>
   try simp only [Act.put,setIfInBounds_toArray,set_cons_zero,set_cons_succ]
   refine wpAnyH_done (by kernel_rfl) ?_ _
   go_wp2_with fail
   have hsd : Touch (fun _ => False) wr w3.drew := hsame.drew'
   have HBW : Hid (BkH Y w3.drew b v1 S1 o.id) := Lib.hid (HB1.out.keep hsd (fun _ _ h => h))
   have HOW : Hid (w3.drew.ownsRow (w.heap.size + 1) 97 8 tv T.length (flatT T)) := Lib.hid (hsd.own HO1.out (fun _ _ h => h))
   have HTW : Hid (Touch (Ft b v) w w3.drew) := Lib.hid (HT1.out.trans hsd (fun _ _ h => h.elim))
   have HPW : Hid (Whl w3.drew w.heap.size 38 #[.int .i64 o.id, .string o.who, .bool o.buy, .int .i64 o.item, .int .i64 ct, .int .i64 o.pr]) := Lib.hid ((hsd.block _ HP.out.low (fun h => h)).trans HP.out)
   have HXW : Hid (w3.drew.ownsRow 0 38 6 (.slice (some ⟨gx, 0, none⟩) (r.length + 1) cx) (r.length + 1) (flatO (x :: r))) := Lib.hid (hsd.own HOX.out (fun _ _ h => h))
   have d0' : w3.drew.cell? ⟨w.heap.size, 0, none⟩ = _ := d0
   have d1' : w3.drew.cell? ⟨w.heap.size, 1, none⟩ = _ := d1
   have d2' : w3.drew.cell? ⟨w.heap.size, 2, none⟩ = _ := d2
   have d3' : w3.drew.cell? ⟨w.heap.size, 3, none⟩ = _ := d3
   have d4' : w3.drew.cell? ⟨w.heap.size, 4, none⟩ = _ := d4
   have d5' : w3.drew.cell? ⟨w.heap.size, 5, none⟩ = _ := d5
   have x0' : w3.drew.cell? ⟨gx, 0, none⟩ = _ := x0
   have x1' : w3.drew.cell? ⟨gx, 1, none⟩ = _ := x1
   have x2' : w3.drew.cell? ⟨gx, 2, none⟩ = _ := x2
   have x3' : w3.drew.cell? ⟨gx, 3, none⟩ = _ := x3
   have x4' : w3.drew.cell? ⟨gx, 4, none⟩ = _ := x4
   have x5' : w3.drew.cell? ⟨gx, 5, none⟩ = _ := x5
   have hcx' : w3.drew.cell? ⟨b, Y.o + it, none⟩ = _ := hcx
   have hsw : wr.heap.size ≤ w3.drew.heap.size := hsd.size
   clear d0 d1 d2 d3 d4 d5 x0 x1 x2 x3 x4 x5 hcx hsame hsd hs3
   generalize w3.drew = W at HBW HOW HTW HPW HXW d0' d1' d2' d3' d4' d5' x0' x1' x2' x3' x4' x5' hcx' hsw ⊢
   obtain ⟨i0, hi, hz0, hz1, hz2⟩ := info_parts Tryz.infoTrade
   obtain ⟨td, htd⟩ : ∃ td, td = tradeP (⟨o.id, o.who, false, o.item, ct, o.pr⟩ : Od) x n := ⟨_, rfl⟩
   have HTD := Lib.hid htd
   clear htd
   have hkx8 := hkx
   refine wp_region_held_drew (S := (fun W => W.cell? ⟨w.heap.size, 0, none⟩ = some (.int .i64 o.id) ∧ W.cell? ⟨w.heap.size, 1, none⟩ = some (.string o.who) ∧ W.cell? ⟨w.heap.size, 2, none⟩ = some (.bool false) ∧ W.cell? ⟨w.heap.size, 3, none⟩ = some (.int .i64 o.item) ∧ W.cell? ⟨w.heap.size, 4, none⟩ = some (.int .i64 ct) ∧ W.cell? ⟨w.heap.size, 5, none⟩ = some (.int .i64 o.pr) ∧ W.cell? ⟨gx, 0, none⟩ = some (.int .i64 x.id) ∧ W.cell? ⟨gx, 1, none⟩ = some (.string x.who) ∧ W.cell? ⟨gx, 2, none⟩ = some (.bool x.buy) ∧ W.cell? ⟨gx, 3, none⟩ = some (.int .i64 x.item) ∧ W.cell? ⟨gx, 4, none⟩ = some (.int .i64 x.ct) ∧ W.cell? ⟨gx, 5, none⟩ = some (.int .i64 x.pr))) (by kernel_rfl) ⟨d0', d1', d2', d3', d4', d5', x0', x1', x2', x3', x4', x5'⟩ (fun hHeld => ?_)
   refine tkY 0 (some 82) ?v0t rfl ?y0t ?r0t
   case y0t => exact tY
   case r0t =>
   try simp only [Act.put,setIfInBounds_toArray,set_cons_zero,set_cons_succ]
   refine tkY 1 (some 83) ?v1t rfl ?y1t ?r1t
   case y1t => exact tY
   case r1t =>
   try simp only [Act.put,setIfInBounds_toArray,set_cons_zero,set_cons_succ]
   refine tkY 2 (some 84) ?v2t rfl ?y2t ?r2t
   case y2t => exact tY
   case r2t =>
   try simp only [Act.put,setIfInBounds_toArray,set_cons_zero,set_cons_succ]
   refine tkY 3 (some 85) ?v3t rfl ?y3t ?r3t
   case y3t => exact tY
   case r3t =>
   try simp only [Act.put,setIfInBounds_toArray,set_cons_zero,set_cons_succ]
   refine tkY 4 (some 86) ?v4t rfl ?y4t ?r4t
   case y4t => exact tY
   case r4t =>
   try simp only [Act.put,setIfInBounds_toArray,set_cons_zero,set_cons_succ]
   refine tkY 5 (some 87) ?v5t rfl ?y5t ?r5t
   case y5t => exact tY
   case r5t =>
   try simp only [Act.put,setIfInBounds_toArray,set_cons_zero,set_cons_succ]
   refine wpAnyH_ready (rs := [6]) (by kernel_rfl) (by simp) ?_
   refine AllReadyH.cons (o := ⟨some 88, _, _, _, _, _⟩) rfl (fun K hK => ?_) AllReadyH.nil
   go_simp
   refine (bkTrade (⟨o.id, o.who, false, o.item, ct, o.pr⟩ : Od) x n _).mono ?_; rintro e w7 ⟨he, hb7⟩; rw [← HTD.out] at he; unfold tdA at he; subst he
   have hs7 : W.heap.size ≤ w7.heap.size := hb7.size
   have hkd : ∀ q u, W.cell? ⟨w.heap.size, q, none⟩ = some u → w7.cell? ⟨w.heap.size, q, none⟩ = some u := fun q u h => bkeep hb7 (show W.drew.cell? _ = _ from h) (show w.heap.size < W.heap.size by omega)
   have hkx : ∀ q u, W.cell? ⟨gx, q, none⟩ = some u → w7.cell? ⟨gx, q, none⟩ = some u := fun q u h => bkeep hb7 (show W.drew.cell? _ = _ from h) (show gx < W.heap.size by omega)
   have HB7 : Hid (Below W.heap.size W w7) := Lib.hid ⟨hb7.os, hb7.tape, hb7.output, hb7.size, hb7.block⟩
   go_wp2_with fail
   refine hK.out _ _ (by obtain ⟨k0, k1, k2, k3, k4, k5, k6, k7, k8, k9, k10, k11⟩ := hHeld; exact ⟨hkd _ _ k0, hkd _ _ k1, hkd _ _ k2, hkd _ _ k3, hkd _ _ k4, hkd _ _ k5, hkx _ _ k6, hkx _ _ k7, hkx _ _ k8, hkx _ _ k9, hkx _ _ k10, hkx _ _ k11⟩) (fun hHeld => ?_)
   clear hK K
   try simp only [Act.put,setIfInBounds_toArray,set_cons_zero,set_cons_succ]
   refine wpAnyH_ready (rs := [7]) (by kernel_rfl) (by simp) ?_
   refine AllReadyH.cons (o := ⟨some 89, _, _, _, _, _⟩) rfl (fun K hK => ?_) AllReadyH.nil
   go_simp
   have hkd : ∀ q u, w7.cell? ⟨w.heap.size, q, none⟩ = some u → (w7.alloc (.cells #[.string td.buyer, .string td.seller, .int .i64 td.buy, .int .i64 td.sell, .int .i64 td.item, .int .i64 td.ct, .int .i64 td.pr, .int .i64 td.bid] 97)).cell? ⟨w.heap.size, q, none⟩ = some u := fun q u h => c_alloc (by omega) h
   have hkx : ∀ q u, w7.cell? ⟨gx, q, none⟩ = some u → (w7.alloc (.cells #[.string td.buyer, .string td.seller, .int .i64 td.buy, .int .i64 td.sell, .int .i64 td.item, .int .i64 td.ct, .int .i64 td.pr, .int .i64 td.bid] 97)).cell? ⟨gx, q, none⟩ = some u := fun q u h => c_alloc (by omega) h
   have hrow7 : (w7.alloc (.cells #[.string td.buyer, .string td.seller, .int .i64 td.buy, .int .i64 td.sell, .int .i64 td.item, .int .i64 td.ct, .int .i64 td.pr, .int .i64 td.bid] 97)).ownsRow (w.heap.size + 1) 97 8 tv T.length (flatT T) := ((Touch.of_below HB7.out).own HOW.out (fun g hg hd => by have := (HOW.out.lt g hg).2; omega)).alloc _
   have hT7 : Touch (fun x => W.heap.size ≤ x) W (w7.alloc (.cells #[.string td.buyer, .string td.seller, .int .i64 td.buy, .int .i64 td.sell, .int .i64 td.item, .int .i64 td.ct, .int .i64 td.pr, .int .i64 td.bid] 97)) := (Touch.of_below HB7.out).alloc _
   refine hK.out _ _ (by obtain ⟨k0, k1, k2, k3, k4, k5, k6, k7, k8, k9, k10, k11⟩ := hHeld; exact ⟨hkd _ _ k0, hkd _ _ k1, hkd _ _ k2, hkd _ _ k3, hkd _ _ k4, hkd _ _ k5, hkx _ _ k6, hkx _ _ k7, hkx _ _ k8, hkx _ _ k9, hkx _ _ k10, hkx _ _ k11⟩) (fun hHeld => ?_)
   clear hK K
   try simp only [Act.put,setIfInBounds_toArray,set_cons_zero,set_cons_succ]
   refine wpAnyH_ready (rs := [8]) (by kernel_rfl) (by simp) ?_
   refine AllReadyH.cons (o := ⟨some 90, _, _, _, _, _⟩) rfl (fun K hK => ?_) AllReadyH.nil
   refine step_append_cells rfl (.tmp 82) (.tmp 89) 93 rfl (w.heap.size + 1) 97 i0 (.agg #[.string ⟨#[]⟩, .string ⟨#[]⟩, .int .i64 0, .int .i64 0, .int .i64 0, .int .i64 0, .int .i64 0, .int .i64 0]) 8 80 Tryz.underlying93 hi hz0 hz1 hz2 rfl (by decide) tv T.length (flatT T) rfl hrow7 _ _ 1 1 (tdV td) rfl (td_cells (w := w7) (e := 97) td) (td_one td) (by unfold maxLen; omega) (by omega) (by simp; omega) ?_
   intro v8 w8 hown8 ht8 hb8
   have hkd : ∀ q u, (w7.alloc (.cells #[.string td.buyer, .string td.seller, .int .i64 td.buy, .int .i64 td.sell, .int .i64 td.item, .int .i64 td.ct, .int .i64 td.pr, .int .i64 td.bid] 97)).cell? ⟨w.heap.size, q, none⟩ = some u → w8.cell? ⟨w.heap.size, q, none⟩ = some u := fun q u h => ht8.cell h (fun e => by have := (HOW.out.lt _ e).1; omega)
   have hkx : ∀ q u, (w7.alloc (.cells #[.string td.buyer, .string td.seller, .int .i64 td.buy, .int .i64 td.sell, .int .i64 td.item, .int .i64 td.ct, .int .i64 td.pr, .int .i64 td.bid] 97)).cell? ⟨gx, q, none⟩ = some u → w8.cell? ⟨gx, q, none⟩ = some u := fun q u h => ht8.cell h (fun e => HAP.out _ e (.inr ⟨it, hkx8, by rw [HVX.out]; rfl⟩))
   have HT8 : Hid (Touch (fun x => tv.ownBlock = some x) W w8) := Lib.hid ((hT7.mono' (D' := fun x => tv.ownBlock = some x) (fun k hk hd => by omega)).trans ht8 (fun _ _ h => h))
   have hb8' : v8.ownBlock = tv.ownBlock ∨ ∃ g, v8.ownBlock = some g ∧ W.heap.size ≤ g := hb8.imp id (fun h => ⟨_, h, by simp; omega⟩)
   have hro8 : w8.ownsRow (w.heap.size + 1) 97 8 v8 (T.length + 1) (flatT (T ++ [td])) := by rw [flatT_app]; simpa [flatT] using hown8
   have HRO8 := Lib.hid hro8
   have HB8 := Lib.hid hb8'
   clear hown8 ht8 hb8 hb8' hro8 hT7 hrow7
   refine hK.out _ _ (by obtain ⟨k0, k1, k2, k3, k4, k5, k6, k7, k8, k9, k10, k11⟩ := hHeld; exact ⟨hkd _ _ k0, hkd _ _ k1, hkd _ _ k2, hkd _ _ k3, hkd _ _ k4, hkd _ _ k5, hkx _ _ k6, hkx _ _ k7, hkx _ _ k8, hkx _ _ k9, hkx _ _ k10, hkx _ _ k11⟩) (fun hHeld => ?_)
   clear hK K
   try simp only [Act.put,setIfInBounds_toArray,set_cons_zero,set_cons_succ]
   refine tkY 9 (some 9) ?v9t rfl ?y9t ?r9t
   case y9t => exact tY
   case r9t =>
   try simp only [Act.put,setIfInBounds_toArray,set_cons_zero,set_cons_succ]
   refine wpAnyH_done (by kernel_rfl) ?_ _
   obtain ⟨k0, k1, k2, k3, k4, k5, k6, k7, k8, k9, k10, k11⟩ := hHeld
   have HV8 : Hid (∀ g, v8.ownBlock = some g → ¬ Ft b v1 g ∧ g ≠ w.heap.size ∧ w.heap.size < g) := Lib.hid (fun g hg => by
    rcases HB8.out with e | ⟨q, e, hq⟩
    ·
     rw [e] at hg
     exact ⟨HAP.out g hg, by have := (HOW.out.lt g hg).1; omega, by have := (HOW.out.lt g hg).1; omega⟩
    ·
     rw [e] at hg
     injection hg with hg
     exact ⟨fun hf => by have := HBW.out.lows g hf; omega, by omega, by omega⟩)
   have HP8 : Hid (Whl w8 w.heap.size 38 #[.int .i64 o.id, .string o.who, .bool o.buy, .int .i64 o.item, .int .i64 ct, .int .i64 o.pr]) := Lib.hid ((HT8.out.block _ HPW.out.low (fun e => by have := (HOW.out.lt _ e).1; omega)).trans HPW.out)
   have HX8 : Hid (w8.ownsRow 0 38 6 (.slice (some ⟨gx, 0, none⟩) (r.length + 1) cx) (r.length + 1) (flatO (x :: r))) := Lib.hid (HT8.out.own HXW.out (fun g hg e => HAP.out g e (.inr ⟨it, hkx8, by rw [HVX.out]; exact hg⟩)))
   have HB8b : Hid (BkH Y w8 b v1 S1 o.id) := Lib.hid (HBW.out.keep HT8.out (fun g hg e => HAP.out g e hg))
   have f4 := HP8.out.free 4
   have fx := HX8.out.frozenAt 4
   have hs8 := HT8.out.size
   have HP15 : Hid (Whl ((w8.setCell ⟨w.heap.size, 4, none⟩ (.int .i64 (ct - n))).setCell ⟨gx, 4, none⟩ (.int .i64 (x.ct - n))) w.heap.size 38 #[.int .i64 o.id, .string o.who, .bool o.buy, .int .i64 o.item, .int .i64 (ct - n), .int .i64 o.pr]) := Lib.hid ((HP8.out.set 4 _).far (fun e => hgd e.symm))
   have HB14 : Hid (BkH Y (w8.setCell ⟨w.heap.size, 4, none⟩ (.int .i64 (ct - n))) b v1 S1 o.id) := Lib.hid (HB8b.out.keep (D := fun k => k = w.heap.size) ((Touch.refl _ _).set (fun _ => rfl)) (fun g hg e => HND.out (by rw [← e]; exact hg)))
   have HX14 : Hid ((w8.setCell ⟨w.heap.size, 4, none⟩ (.int .i64 (ct - n))).ownsRow 0 38 6 (.slice (some ⟨gx, 0, none⟩) (r.length + 1) cx) (r.length + 1) (flatO (x :: r))) := Lib.hid (own_set_ne HX8.out (fun g hg e => by have hg2 : some gx = some g := hg; injection hg2 with hg2; exact hgd (hg2.trans e)))
   have HX15 : Hid (((w8.setCell ⟨w.heap.size, 4, none⟩ (.int .i64 (ct - n))).setCell ⟨gx, 4, none⟩ (.int .i64 (x.ct - n))).ownsRow 0 38 6 (v1 (it)) (less x n :: r).length (flatO (less x n :: r))) := Lib.hid (by
    rw [HVX.out]
    exact (HX14.out.stored 4 _).1)
   have hT15 : Touch (fun k => k = b ∨ (v1 (it)).ownBlock = some k) (w8.setCell ⟨w.heap.size, 4, none⟩ (.int .i64 (ct - n))) ((w8.setCell ⟨w.heap.size, 4, none⟩ (.int .i64 (ct - n))).setCell ⟨gx, 4, none⟩ (.int .i64 (x.ct - n))) := (Touch.refl _ _).set (fun _ => .inr (by rw [HVX.out]; rfl))
   have hturn := HB14.out.turn hkx8 (u := v1 (it)) (l := less x n :: r) ⟨by rw [Y.set_ _ _ _ hkx8, upd_self]; exact HB14.out.whl.far (fun e => hgb e.symm), by rw [Y.set_ _ _ _ hkx8, upd_self]; exact Y.at_ _ _ hkx8, HX15.out, HB14.out.far _ hkx8⟩ hT15 (.inl rfl)
   rw [upd_self] at hturn
   have HB15 := Lib.hid hturn.1
   have HTT : Hid (Touch (Ft b v) w ((w8.setCell ⟨w.heap.size, 4, none⟩ (.int .i64 (ct - n))).setCell ⟨gx, 4, none⟩ (.int .i64 (x.ct - n)))) := Lib.hid (((HTW.out.trans HT8.out (fun g hg e => by have := (HOW.out.lt _ e).1; omega)).mono' (fun _ _ h => h) |>.setNew (a := ⟨w.heap.size, 4, none⟩) (Nat.le_refl _)).trans hturn.2.1 (fun g hg hf => by
    rcases HF1.out g hf with h | h
    · exact h
    · omega))
   have HR15 : Hid (w8.ownsRow (w.heap.size + 1) 97 8 v8 (T.length + 1) (flatT (T ++ [td])) → ((w8.setCell ⟨w.heap.size, 4, none⟩ (.int .i64 (ct - n))).setCell ⟨gx, 4, none⟩ (.int .i64 (x.ct - n))).ownsRow (w.heap.size + 1) 97 8 v8 (T.length + 1) (flatT (T ++ [td]))) := Lib.hid (fun h => own_set_ne (own_set_ne h (fun g hg e => (HV8.out g hg).2.1 e)) (fun g hg e => (HV8.out g hg).1 (.inr ⟨(it), hkx8, by rw [HVX.out, show g = gx from e]; rfl⟩)))
   have HPLn : Hid (∀ T' o' L', Places (o.at (ct - n)) (takeN x n L1) T' o' L' → Places o L ((T ++ [td]) ++ T') o' L') := Lib.hid (fun T' o' L' h => by
    have h2 := HPL.out (td :: T') o' L' (by
     have := Places.step (o.at ct) x L1 T' o' L' hz HBST.out (by
      have e : mn (o.at ct).ct x.ct = n := HNE.out.symm
      rw [e]; exact h)
     have e : mn (o.at ct).ct x.ct = n := HNE.out.symm
     rw [e, HOE0.out, ← HTD.out] at this
     rw [HOE0.out]
     exact this)
    rw [List.append_assoc]; exact h2)
   have HKn : Hid (Bk (takeN x n L1) last) := Lib.hid (HK1.out.takeN HBST.out.1 (by omega) hn2.2)
   have hLn : (takeN x n L1).length ≤ L.length := by
    refine Nat.le_trans ?_ hLl
    unfold takeN
    split
    · exact List.length_filter_le _ _
    · rw [List.length_map]; exact Nat.le_refl _
   have hw1 : wrap64 (ct - n) = ct - n := by unfold wrap64; omega
   have hw2 : wrap64 (x.ct - n) = x.ct - n := by unfold wrap64; omega
   have HFT : Hid (∀ g, Ft b v1 g → Ft b v g ∨ w.heap.size < g) := HF1
   have hmr := (HP.out.cell 4)
   simp only [List.getElem?_toArray, List.getElem?_cons_succ, List.getElem?_cons_zero] at hmr
   have HMR := Lib.hid hmr
   have hTn : ((T ++ [td]).length : Int) + (ct - n) ≤ o.ct := by rw [List.length_append]; simp; omega
   clear hturn hT15 hmr d0' d1' d2' d3' d4' d5' x0' x1' x2' x3' x4' x5' hcx' k0 k1 k2 k3 k5 k6 k7 k8 k9 k11
   by_cases hxn : x.ct = n
   ·
    have q5 : x.ct - n = 0 := by omega
    rw [q5] at HB15 HX15 HTT HP15 HR15
    have hsd15 := HB15.out.sdp hkx8 (p := Y.o + it) (by omega)
    rw [upd_same] at hsd15
    have HSD := Lib.hid hsd15
    have HQ15 : Hid (SideQ true (less x n :: r)) := Lib.hid (by
     have hq := HR1.out.q HK1.out (bb := true) hi1 hi3
     intro y hy
     rcases List.mem_cons.1 hy with rfl | hy
     · exact hq x (by show x ∈ S1 (it); rw [hS]; exact List.mem_cons_self)
     · exact hq y (by show y ∈ S1 (it); rw [hS]; exact List.mem_cons_of_mem _ hy))
    have HH15 := Lib.hid (heap_set0 hS (HR1.out (it) hkx8).2 n)
    have hr1 : (less x n :: r).length ≤ 1000 := by
     have h1 := (HR1.out (it) hkx8).1.length_eq
     have h2 := List.length_filter_le (sideP (it)) L1
     rw [hS] at h1
     simp only [List.length_cons] at h1 ⊢
     omega
    clear hsd15
    go_wp2_with (first
     | (go_at_call 87; refine (heapPop b (Y.o + it) Y.T (Y.C v1 o.id) true (less x n :: r) (v1 (it)) _ HSD.out HQ15.out HH15.out hr1 (Nat.succ_pos _)).mono ?_; rintro e w9 ⟨rfl, v9, l9, hp9, hh9, hS9, hT9, hb9⟩; have hs9 := hT9.size; have HP9 := Lib.hid hp9; have HH9 := Lib.hid hh9; have HS9 := Lib.hid hS9; have HT9 := Lib.hid hT9; have HB9 := Lib.hid hb9; clear hp9 hh9 hS9 hT9 hb9)
     | fail)
    have hs9b := HS9.out
    have hturn9 := HB15.out.turnp hkx8 (p := Y.o + it) (by omega) (u := v9) (l := l9) hs9b HT9.out (.inl HB9.out)
    rw [upd_upd] at hturn9
    have hfar9 : ∀ g, Ft b (upd v1 (it) v9) g → Ft b v1 g := fun g hg => by
     rcases hg with e | ⟨q, hq, e⟩
     · exact .inl e
     ·
      by_cases eq : q = (it)
      · subst eq; rw [upd_same] at e; exact .inr ⟨_, hkx8, HB9.out ▸ e⟩
      · rw [upd_ne _ _ eq] at e; exact .inr ⟨q, hq, e⟩
    have hD9 : ∀ g, (g = b ∨ (v1 (it)).ownBlock = some g) → Ft b v1 g := fun g hg => hg.imp id (fun e => ⟨_, hkx8, e⟩)
    have hm9 := Whl.cell ((HT9.out.block _ HP15.out.low (fun e => HND.out (hD9 _ e))).trans HP15.out) 4
    simp only [List.getElem?_toArray, List.getElem?_cons_succ, List.getElem?_cons_zero] at hm9
    refine ⟨⟨ct - n, takeN x n L1, upd v1 (it) v9, _, T ++ [td], v8, rfl, by omega, by omega, (HT9.out.block _ HP15.out.low (fun e => HND.out (hD9 _ e))).trans HP15.out, hturn9.1, HR1.out.taken HK1.out hkx8 hS hxn HP9.out HH9.out, HKn.out, by rw [List.length_append]; exact HT9.out.own (HR15.out HRO8.out) (fun g hg e => (HV8.out g hg).1 (hD9 g e)), fun g hg hf => (HV8.out g hg).1 (hfar9 g hf), fun hf => HND.out (hfar9 _ hf), hTn, hLn, HTT.out.trans (HT9.out.mono hD9) (fun g hg hf => ?_), fun g hg => HFT.out g (hfar9 g hg), HPLn.out⟩, ?_⟩
    ·
     rcases HFT.out g hf with h | h
     · exact h
     · omega
    ·
     rw [hm9, HMR.out]
     simp [intOf]; omega
   ·
    have q5 : ¬ x.ct - n = 0 := by omega
    go_wp2_with fail
    refine ⟨⟨ct - n, takeN x n L1, v1, _, T ++ [td], v8, rfl, by omega, by omega, HP15.out, HB15.out, HR1.out.fewer HK1.out hkx8 hS hxn, HKn.out, by rw [List.length_append]; exact HR15.out HRO8.out, fun g hg => (HV8.out g hg).1, HND.out, hTn, hLn, HTT.out, HFT.out, HPLn.out⟩, ?_⟩
    have hm9 := HP15.out.cell 4
    simp only [List.getElem?_toArray, List.getElem?_cons_succ, List.getElem?_cons_zero] at hm9
    rw [hm9, HMR.out]
    simp [intOf]; omega
end Go.Proofs.YtdlbiobjnohfbaaGreat
