/- The document's Place: those who sell. -/
import Derived.Test.YtdlbiobjnohfbaaGreatVb29
namespace Go.Proofs.YtdlbiobjnohfbaaGreat
open Go.RowKit
set_option linter.unusedVariables false
set_option linter.unusedSimpArgs false
theorem k0Vb31 {p : Prop} (h : p := by first | exact ⟨bkeep HBC.out p0 hd4, bkeep HBC.out p1 hd4, bkeep HBC.out p2 hd4, bkeep HBC.out p3 hd4, bkeep HBC.out p4 hd4, bkeep HBC.out p5 hd4⟩ | exact ⟨c_set_other (by omega) (bkeep HBC.out p0 hd4), c_set_other (by omega) (bkeep HBC.out p1 hd4), c_set_other (by omega) (bkeep HBC.out p2 hd4), c_set_other (by omega) (bkeep HBC.out p3 hd4), c_set_other (by omega) (bkeep HBC.out p4 hd4), c_set_other (by omega) (bkeep HBC.out p5 hd4)⟩) : p := h
set_option maxHeartbeats 40000000 in
set_option maxRecDepth 10000 in
theorem refPlaceF (B x : Nat) (u : Value) (last : Int) (L : List Od) (o : Od) (w : World) (h : RfB w B x u L last) (hk : Bk L last) (hlen : L.length ≤ 1000) (hb : o.buy = false) :
  Calls Tryz.prog 49 #[.pointer (some ⟨x, 0, none⟩), .agg #[.int .i64 o.id, .string o.who, .bool false, .int .i64 o.item, .int .i64 o.ct, .int .i64 o.pr]] w fun e w' => ∃ (T : List Td) (n c : Int) (L' : List Od) (last' : Int) (u' : Value) (tv : Value), e = .returned (.tuple #[tv, .int .i64 n, .int .i64 c]) ∧ PlacedR L last o T n c L' last' ∧ RfB w' B x u' L' last' ∧ w'.ownsRow w.heap.size 108 8 tv T.length (flatT T) ∧ (∀ k, tv.ownBlock = some k → ¬ Fx x u' k) ∧ Touch (Fx x u) w w' ∧ (∀ k, Fx x u' k → Fx x u k ∨ w.heap.size ≤ k) := by
 have HRF := Lib.hid h
 have HK := Lib.hid hk
 have HBUY := Lib.hid hb
 have hxl := h.blk.low
 have hBx := h.low
 have hmc := refMay o
 rw [hb] at hmc
 have HMC := Lib.hid hmc
 clear h hk hb hmc
 go_enter Tryz.func49, Tryz.ntmps49
 go_wp2_with fail
 have P0 : Whl (w.alloc (.cells #[.int .i64 o.id, .string o.who, .bool false, .int .i64 o.item, .int .i64 o.ct, .int .i64 o.pr] 38)) w.heap.size 38 #[.int .i64 o.id, .string o.who, .bool false, .int .i64 o.item, .int .i64 o.ct, .int .i64 o.pr] := Whl.new rfl
 have HB0 : Hid (RfB (w.alloc (.cells #[.int .i64 o.id, .string o.who, .bool false, .int .i64 o.item, .int .i64 o.ct, .int .i64 o.pr] 38)) B x u L last) := Lib.hid (HRF.out.keep (D := fun _ => False) ((Touch.refl _ _).alloc _) (fun _ _ h => h))
 have hB0 : Below w.heap.size w (w.alloc (.cells #[.int .i64 o.id, .string o.who, .bool false, .int .i64 o.item, .int .i64 o.ct, .int .i64 o.pr] 38)) := (Below.refl _ _).alloc (Nat.le_refl _) _
 have hs0 : w.heap.size < (w.alloc (.cells #[.int .i64 o.id, .string o.who, .bool false, .int .i64 o.item, .int .i64 o.ct, .int .i64 o.pr] 38)).heap.size := by simp
 generalize w.alloc (.cells #[.int .i64 o.id, .string o.who, .bool false, .int .i64 o.item, .int .i64 o.ct, .int .i64 o.pr] 38) = V at P0 HB0 hB0 hs0 ⊢
 have d0 := P0.cell 0
 have d1 := P0.cell 1
 have d2 := P0.cell 2
 have d3 := P0.cell 3
 have d4 := P0.cell 4
 have d5 := P0.cell 5
 have l8 := HB0.out.blk.cell 1
 simp only [List.getElem?_toArray, List.getElem?_cons_succ, List.getElem?_cons_zero] at d0 d1 d2 d3 d4 d5 l8
 by_cases hok : OkO o
 case neg =>
  have HMAY : Hid (decide (OkO o) = false) := Lib.hid (decide_eq_false hok)
  refine wp_region_held_drew (S := (fun W => Below V.heap.size V W ∧ W.cell? ⟨w.heap.size, 0, none⟩ = some (.int .i64 o.id) ∧ W.cell? ⟨w.heap.size, 1, none⟩ = some (.string o.who) ∧ W.cell? ⟨w.heap.size, 2, none⟩ = some (.bool false) ∧ W.cell? ⟨w.heap.size, 3, none⟩ = some (.int .i64 o.item) ∧ W.cell? ⟨w.heap.size, 4, none⟩ = some (.int .i64 o.ct) ∧ W.cell? ⟨w.heap.size, 5, none⟩ = some (.int .i64 o.pr) ∧ W.cell? ⟨x, 1, none⟩ = some (.int .i64 last))) (by kernel_rfl) ⟨(Below.refl _ _).drew, d0, d1, d2, d3, d4, d5, l8⟩ (fun hHeld => ?_)
  refine tkY 0 (some 12) ?v0a rfl ?y0a ?r0a
  case y0a => exact tY
  case r0a =>
  try simp only [q1,q2,q3,q4,q5]
  refine wpAnyH_ready (rs := [1]) (by kernel_rfl) (by simp) ?_
  refine AllReadyH.cons (o := ⟨some 13, _, _, _, _, _⟩) rfl (fun K hK => ?_) AllReadyH.nil
  go_simp
  refine (HMC.out _).mono ?_; rintro e w3 ⟨he, hb3⟩; rw [HMAY.out] at he; subst he
  go_wp2_with fail
  refine hK.out _ _ (by have hh := Below.trans hHeld.1 (Below.mono hb3 (Below.size hHeld.1)); exact ⟨hh, bkeep hh d0 (by omega), bkeep hh d1 (by omega), bkeep hh d2 (by omega), bkeep hh d3 (by omega), bkeep hh d4 (by omega), bkeep hh d5 (by omega), bkeep hh l8 (by omega)⟩) (fun hHeld => ?_)
  clear hK K
  try simp only [q1,q2,q3,q4,q5]
  refine tkY 2 (some 14) (.bool true) rfl ?y2a ?r2a
  case y2a => (intro w hSw; (try dsimp only at hSw); (try go_split_ands); go_simp)
  case r2a =>
  try simp only [q1,q2,q3,q4,q5]
  refine tkY 3 (some 15) (.bool true) rfl ?y3a ?r3a
  case y3a => (intro w hSw; (try dsimp only at hSw); (try go_split_ands); go_simp)
  case r3a =>
  try simp only [q1,q2,q3,q4,q5]
  refine tkN 4 (some 16) rfl ?_
  try simp only [q1,q2,q3,q4,q5]
  refine tkN 5 (some 17) rfl ?_
  try simp only [q1,q2,q3,q4,q5]
  refine tkN 6 (some 18) rfl ?_
  try simp only [q1,q2,q3,q4,q5]
  refine tkN 7 (some 19) rfl ?_
  try simp only [q1,q2,q3,q4,q5]
  refine tkN 8 (some 20) rfl ?_
  try simp only [q1,q2,q3,q4,q5]
  refine tkN 9 (some 21) rfl ?_
  try simp only [q1,q2,q3,q4,q5]
  refine tkN 10 (some 22) rfl ?_
  try simp only [q1,q2,q3,q4,q5]
  refine tkY 11 (some 23) (.bool true) rfl ?y11a ?r11a
  case y11a => (intro w hSw; (try dsimp only at hSw); (try go_split_ands); go_simp)
  case r11a =>
  try simp only [q1,q2,q3,q4,q5]
  refine wpAnyH_done (by kernel_rfl) ?_ _

  go_wp2_with fail
  refine bodyPost_ret (v := .tuple #[.slice none 0 0, .int .i64 0, .int .i64 1]) (by simp [results, Tryz.results49, go_sem, *]) rfl ⟨[], 0, 1, L, last, u, _, rfl, (.bad (fun hh => hok hh.1)), HRF.out.below (hB0.trans (hHeld.1.mono (by omega))), World.ownsRow_nil _ _ _ _, (fun k hk => by cases hk), (Touch.of_below (hB0.trans (hHeld.1.mono (by omega)))).mono' (fun k h1 h2 => by omega), fun k hk => .inl hk⟩
 have HMAY : Hid (decide (OkO o) = true) := Lib.hid (decide_eq_true hok)
 by_cases hid : last < o.id
 case neg =>
  have hid2 : o.id ≤ last := by omega
  refine wp_region_held_drew (S := (fun W => Below V.heap.size V W ∧ W.cell? ⟨w.heap.size, 0, none⟩ = some (.int .i64 o.id) ∧ W.cell? ⟨w.heap.size, 1, none⟩ = some (.string o.who) ∧ W.cell? ⟨w.heap.size, 2, none⟩ = some (.bool false) ∧ W.cell? ⟨w.heap.size, 3, none⟩ = some (.int .i64 o.item) ∧ W.cell? ⟨w.heap.size, 4, none⟩ = some (.int .i64 o.ct) ∧ W.cell? ⟨w.heap.size, 5, none⟩ = some (.int .i64 o.pr) ∧ W.cell? ⟨x, 1, none⟩ = some (.int .i64 last))) (by kernel_rfl) ⟨(Below.refl _ _).drew, d0, d1, d2, d3, d4, d5, l8⟩ (fun hHeld => ?_)
  refine tkY 0 (some 12) ?v0b rfl ?y0b ?r0b
  case y0b => exact tY
  case r0b =>
  try simp only [q1,q2,q3,q4,q5]
  refine wpAnyH_ready (rs := [1]) (by kernel_rfl) (by simp) ?_
  refine AllReadyH.cons (o := ⟨some 13, _, _, _, _, _⟩) rfl (fun K hK => ?_) AllReadyH.nil
  go_simp
  refine (HMC.out _).mono ?_; rintro e w3 ⟨he, hb3⟩; rw [HMAY.out] at he; subst he
  go_wp2_with fail
  refine hK.out _ _ (by have hh := Below.trans hHeld.1 (Below.mono hb3 (Below.size hHeld.1)); exact ⟨hh, bkeep hh d0 (by omega), bkeep hh d1 (by omega), bkeep hh d2 (by omega), bkeep hh d3 (by omega), bkeep hh d4 (by omega), bkeep hh d5 (by omega), bkeep hh l8 (by omega)⟩) (fun hHeld => ?_)
  clear hK K
  try simp only [q1,q2,q3,q4,q5]
  refine tkY 2 (some 14) (.bool false) rfl ?y2b ?r2b
  case y2b => (intro w hSw; (try dsimp only at hSw); (try go_split_ands); go_simp)
  case r2b =>
  try simp only [q1,q2,q3,q4,q5]
  refine tkY 3 (some 15) (.bool false) rfl ?y3b ?r3b
  case y3b => (intro w hSw; (try dsimp only at hSw); (try go_split_ands); go_simp)
  case r3b =>
  try simp only [q1,q2,q3,q4,q5]
  refine tkY 4 (some 16) ?v4b rfl ?y4b ?r4b
  case y4b => exact tY
  case r4b =>
  try simp only [q1,q2,q3,q4,q5]
  refine tkY 5 (some 17) ?v5b rfl ?y5b ?r5b
  case y5b => exact tY
  case r5b =>
  try simp only [q1,q2,q3,q4,q5]
  refine tkY 6 (some 18) ?v6b rfl ?y6b ?r6b
  case y6b => exact tY
  case r6b =>
  try simp only [q1,q2,q3,q4,q5]
  refine tkY 7 (some 19) ?v7b rfl ?y7b ?r7b
  case y7b => exact tY
  case r7b =>
  try simp only [q1,q2,q3,q4,q5]
  refine tkY 8 (some 20) ?v8b rfl ?y8b ?r8b
  case y8b => exact tY
  case r8b =>
  try simp only [q1,q2,q3,q4,q5]
  refine tkY 9 (some 21) ?v9b rfl ?y9b ?r9b
  case y9b => exact tY
  case r9b =>
  try simp only [q1,q2,q3,q4,q5]
  refine tkY 10 (some 22) ?v10b rfl ?y10b ?r10b
  case y10b => exact tY
  case r10b =>
  try simp only [q1,q2,q3,q4,q5]
  refine tkY 11 (some 23) ?v11b rfl ?y11b ?r11b
  case y11b => exact tY
  case r11b =>
  try simp only [q1,q2,q3,q4,q5]
  refine wpAnyH_done (by kernel_rfl) ?_ _

  go_wp2_with fail
  refine bodyPost_ret (v := .tuple #[.slice none 0 0, .int .i64 0, .int .i64 1]) (by simp [results, Tryz.results49, go_sem, *]) rfl ⟨[], 0, 1, L, last, u, _, rfl, (.bad (fun hh => by have := hh.2; omega)), HRF.out.below (hB0.trans (hHeld.1.mono (by omega))), World.ownsRow_nil _ _ _ _, (fun k hk => by cases hk), (Touch.of_below (hB0.trans (hHeld.1.mono (by omega)))).mono' (fun k h1 h2 => by omega), fun k hk => .inl hk⟩
 have hid2 : ¬ o.id ≤ last := by omega
 refine wp_region_held_drew (S := (fun W => Below V.heap.size V W ∧ W.cell? ⟨w.heap.size, 0, none⟩ = some (.int .i64 o.id) ∧ W.cell? ⟨w.heap.size, 1, none⟩ = some (.string o.who) ∧ W.cell? ⟨w.heap.size, 2, none⟩ = some (.bool false) ∧ W.cell? ⟨w.heap.size, 3, none⟩ = some (.int .i64 o.item) ∧ W.cell? ⟨w.heap.size, 4, none⟩ = some (.int .i64 o.ct) ∧ W.cell? ⟨w.heap.size, 5, none⟩ = some (.int .i64 o.pr) ∧ W.cell? ⟨x, 1, none⟩ = some (.int .i64 last))) (by kernel_rfl) ⟨(Below.refl _ _).drew, d0, d1, d2, d3, d4, d5, l8⟩ (fun hHeld => ?_)
 refine tkY 0 (some 12) ?v0c rfl ?y0c ?r0c
 case y0c => exact tY
 case r0c =>
 try simp only [q1,q2,q3,q4,q5]
 refine wpAnyH_ready (rs := [1]) (by kernel_rfl) (by simp) ?_
 refine AllReadyH.cons (o := ⟨some 13, _, _, _, _, _⟩) rfl (fun K hK => ?_) AllReadyH.nil
 go_simp
 refine (HMC.out _).mono ?_; rintro e w3 ⟨he, hb3⟩; rw [HMAY.out] at he; subst he
 go_wp2_with fail
 refine hK.out _ _ (by have hh := Below.trans hHeld.1 (Below.mono hb3 (Below.size hHeld.1)); exact ⟨hh, bkeep hh d0 (by omega), bkeep hh d1 (by omega), bkeep hh d2 (by omega), bkeep hh d3 (by omega), bkeep hh d4 (by omega), bkeep hh d5 (by omega), bkeep hh l8 (by omega)⟩) (fun hHeld => ?_)
 clear hK K
 try simp only [q1,q2,q3,q4,q5]
 refine tkY 2 (some 14) (.bool false) rfl ?y2c ?r2c
 case y2c => (intro w hSw; (try dsimp only at hSw); (try go_split_ands); go_simp)
 case r2c =>
 try simp only [q1,q2,q3,q4,q5]
 refine tkY 3 (some 15) (.bool false) rfl ?y3c ?r3c
 case y3c => (intro w hSw; (try dsimp only at hSw); (try go_split_ands); go_simp)
 case r3c =>
 try simp only [q1,q2,q3,q4,q5]
 refine tkY 4 (some 16) ?v4c rfl ?y4c ?r4c
 case y4c => exact tY
 case r4c =>
 try simp only [q1,q2,q3,q4,q5]
 refine tkY 5 (some 17) ?v5c rfl ?y5c ?r5c
 case y5c => exact tY
 case r5c =>
 try simp only [q1,q2,q3,q4,q5]
 refine tkY 6 (some 18) ?v6c rfl ?y6c ?r6c
 case y6c => exact tY
 case r6c =>
 try simp only [q1,q2,q3,q4,q5]
 refine tkY 7 (some 19) ?v7c rfl ?y7c ?r7c
 case y7c => exact tY
 case r7c =>
 try simp only [q1,q2,q3,q4,q5]
 refine tkY 8 (some 20) ?v8c rfl ?y8c ?r8c
 case y8c => exact tY
 case r8c =>
 try simp only [q1,q2,q3,q4,q5]
 refine tkY 9 (some 21) ?v9c rfl ?y9c ?r9c
 case y9c => exact tY
 case r9c =>
 try simp only [q1,q2,q3,q4,q5]
 refine tkY 10 (some 22) ?v10c rfl ?y10c ?r10c
 case y10c => exact tY
 case r10c =>
 try simp only [q1,q2,q3,q4,q5]
 refine tkY 11 (some 23) ?v11c rfl ?y11c ?r11c
 case y11c => exact tY
 case r11c =>
 try simp only [q1,q2,q3,q4,q5]
 refine wpAnyH_done (by kernel_rfl) ?_ _

 obtain ⟨hb3V, e0, e1, e2, e3, e4, e5, e8⟩ := hHeld
 have HB3 := Lib.hid (HB0.out.below hb3V)
 have hs3 := hb3V.size
 have HBV := Lib.hid (hB0.trans (hb3V.mono (by omega)))
 have P3 := Lib.hid (P0.below hb3V hs0)
 clear hb3 hb3V hB0 d0 d1 d2 d3 d4 d5 l8 P0 HB0 HMC
 have l0 := HB3.out.blk.cell 0
 have f8 := HB3.out.blk.free 1
 simp only [List.getElem?_toArray, List.getElem?_cons_succ, List.getElem?_cons_zero] at l0
 obtain ⟨A0, c0, hu0, _, _, _⟩ := own_slice HB3.out.row
 rw [hu0] at l0
 by_cases h32 : 32 ≤ L.length
 case pos =>
  have q32 : (32 : Int) ≤ (L.length : Int) := by omega
  go_wp2_with fail
  refine bodyPost_ret (v := .tuple #[.slice none 0 0, .int .i64 0, .int .i64 6]) (by simp [results, Tryz.results49, go_sem, *]) rfl ⟨[], 0, 6, L, last, u, _, rfl, .full hok (by omega) h32, HB3.out, World.ownsRow_nil _ _ _ _, (fun k hk => by cases hk), (Touch.of_below HBV.out).mono' (fun k h1 h2 => by omega), fun k hk => .inl hk⟩
 have q32 : ¬ (32 : Int) ≤ (L.length : Int) := by omega
 go_wp2_with fail
 have HB5 : Hid (RfB (w3.setCell ⟨x, 1, none⟩ (.int .i64 o.id)) B x u L o.id) := Lib.hid (HB3.out.setlast o.id)
 have hxD : w.heap.size ≠ x := by omega
 have P5 : Hid (Whl (w3.setCell ⟨x, 1, none⟩ (.int .i64 o.id)) w.heap.size 38 #[.int .i64 o.id, .string o.who, .bool false, .int .i64 o.item, .int .i64 o.ct, .int .i64 o.pr]) := Lib.hid (P3.out.far hxD)
 have HT5 : Hid (Touch (Fx x u) w (w3.setCell ⟨x, 1, none⟩ (.int .i64 o.id))) := Lib.hid (((Touch.of_below HBV.out).mono' (fun k h1 h2 => by omega)).set (fun _ => .inl rfl))
 have HOK := Lib.hid hok
 clear e0 e1 e2 e3 e4 e5 e8 l0 f8 HB3 P3 HBV hok hu0
 generalize w3.setCell ⟨x, 1, none⟩ (.int .i64 o.id) = V5 at HB5 P5 HT5 ⊢
 go_loopw [7] (fun tr wr => ∃ (ct : Int) (L1 : List Od) (u1 : Value) (Tl : List Td) (tv : Value), tr = tv ∧ 0 ≤ ct ∧ ct ≤ o.ct ∧ Whl wr w.heap.size 38 #[.int .i64 o.id, .string o.who, .bool false, .int .i64 o.item, .int .i64 ct, .int .i64 o.pr] ∧ RfB wr B x u1 L1 o.id ∧ Bk L1 last ∧ wr.ownsRow (w.heap.size + 1) 108 8 tv Tl.length (flatT Tl) ∧ (∀ k, tv.ownBlock = some k → ¬ Fx x u1 k) ∧ ¬ Fx x u1 w.heap.size ∧ (Tl.length : Int) + ct ≤ o.ct ∧ L1.length ≤ L.length ∧ Touch (Fx x u) w wr ∧ (∀ k, Fx x u1 k → Fx x u k ∨ w.heap.size < k) ∧ (∀ T' o' L', Places (o.at ct) L1 T' o' L' → Places o L (Tl ++ T') o' L')) (fun _ wr => ((wr.cell? ⟨w.heap.size, 4, none⟩).map intOf).getD 0 |>.toNat)
 case atStart => exact ⟨o.ct, L, u, [], _, rfl, by have := HOK.out.ct; omega, Int.le_refl _, P5.out, HB5.out, HK.out, World.ownsRow_nil _ _ _ _, (fun k hk => by cases hk), (fun hk => by have := (HRF.out.lows _ hk).2; omega), by simp, Nat.le_refl _, HT5.out, fun k hk => .inl hk, fun T' o' L' h => h⟩
 case round =>
  obtain ⟨ct, L1, u1, Tl, tv, htv, h0, hct, hP, hB, hK, hO, hap, hnd, hTl, hLl, hT, hF, hpl⟩ := hrel
  have htv := htv.symm
  subst htv
  have d0 := hP.cell 0
  have d1 := hP.cell 1
  have d2 := hP.cell 2
  have d3 := hP.cell 3
  have d4 := hP.cell 4
  have d5 := hP.cell 5
  simp only [List.getElem?_toArray, List.getElem?_cons_succ, List.getElem?_cons_zero] at d0 d1 d2 d3 d4 d5
  have l0 := (hB.blk.cell 0).trans (show (#[u1, Value.int .i64 o.id] : Array Value)[0]? = some u1 from rfl)
  have hxw := hB.blk.low
  have hds := hP.low
  have HP := Lib.hid hP
  have HB1 := Lib.hid hB
  have HK1 := Lib.hid hK
  have HO1 := Lib.hid hO
  have HAP := Lib.hid hap
  have HND := Lib.hid hnd
  have HT1 := Lib.hid hT
  have HF1 := Lib.hid hF
  have HPL := Lib.hid hpl
  have hTl2 : Tl.length ≤ 1048576 := by have := HOK.out.ct; omega
  clear hP hB hK hO hap hnd hT hF hpl
  by_cases hz : 0 < ct
  case neg =>
   obtain rfl : ct = 0 := by omega
   have hnz : ¬ (0 : Int) < 0 := by omega
   go_wp2_with fail
   go_region
   go_wp2_with fail
   have hld : laid (o.at 0) L1 = L1 := if_neg (by show ¬ (0 : Int) < 0; omega)
   have hdr : Touch (fun _ => False) wr wr.drew := Touch.of_drew _ _
   refine bodyPost_ret (v := .tuple #[tv, .int .i64 0, .int .i64 0]) (by simp [results, Tryz.results49, go_sem, *]) rfl ⟨Tl, 0, 0, L1, o.id, u1, tv, rfl, ?_, HB1.out.keep hdr (fun _ _ h => h), own_baseO (hdr.own HO1.out (fun _ _ h => h)) (by omega), HAP.out, HT1.out.trans hdr (fun _ _ h => h.elim), fun k hk => (HF1.out k hk).imp id Nat.le_of_lt⟩
   have hpp : Places o L Tl (o.at 0) L1 := by have := HPL.out [] _ _ (.done _ _ (.inl (Int.le_refl 0))); simpa using this
   have := PlacedR.ok (last := last) HOK.out (by omega) (by omega) Tl (o.at 0) L1 hpp hTl2
   rw [hld] at this
   exact this
  have q0 : (0 : Int) < ct := hz
  have hbs : ∀ W, RfB W B x u1 L1 o.id → Calls Tryz.prog 89 #[.pointer (some ⟨x, 0, none⟩), .agg #[.int .i64 o.id, .string o.who, .bool false, .int .i64 o.item, .int .i64 ct, .int .i64 o.pr]] W fun e w' => ∃ k, e = .returned (.int .i64 k) ∧ BestAt (o.at ct) L1 L1.length k ∧ Below W.heap.size W w' := fun W h => by
   have hh := refBest B x u1 L1 o.id (o.at ct) W h (HK1.out.up (by have := hid; omega) HOK.out.id.2) (by omega)
   rw [show (o.at ct).buy = false from HBUY.out] at hh
   exact hh
  have HBS := Lib.hid hbs
  clear hbs
  have hsl := hs3
  by_cases hnm : NoneMeets (o.at ct) L1
  case pos =>
   have HNM := Lib.hid hnm
   clear hnm
   go_wp2_with (first
    | (go_at_call 89; go_loud (refine (HBS.out _ HB1.out).mono ?_; rintro e w4 ⟨k, rfl, hbe, hb4⟩; obtain rfl := best_none hbe HNM.out; have hs4 := hb4.size; have HB4 := Lib.hid (HB1.out.below hb4); have hP4 := HP.out.below hb4 hds; have HP4 := Lib.hid hP4; have HT4 := Lib.hid (HT1.out.trans (Touch.of_below hb4) (fun n h1 h2 => by omega)); have HO4 := Lib.hid ((Touch.of_below hb4).own HO1.out (fun g hg h => by have := (HO1.out.lt g hg).2; omega)); have HBW := Lib.hid hb4; have p0 := bkeep hb4 d0 hds; have p1 := bkeep hb4 d1 hds; have p2 := bkeep hb4 d2 hds; have p3 := bkeep hb4 d3 hds; have p4 := bkeep hb4 d4 hds; have p5 := bkeep hb4 d5 hds; clear d0 d1 d2 d3 d4 d5 hb4 hP4 hbe))
    | fail)
   have hx4 : x < w4.heap.size := by omega
   have hd4 : w.heap.size < w4.heap.size := by omega
   obtain ⟨A1, c1, hu1, hnc1, hcm1, hCL⟩ := row_cells HB4.out.row
   have HCL := Lib.hid hCL
   have l4 := HB4.out.blk.cell 0
   simp only [List.getElem?_toArray, List.getElem?_cons_succ, List.getElem?_cons_zero] at l4
   rw [hu1] at l4
   obtain ⟨i0, hi0, hz0, hz1, hz2⟩ := info_parts Tryz.infoOrder
   have hoe : (⟨o.id, o.who, false, o.item, ct, o.pr⟩ : Od) = o.at ct := by unfold Od.at; rw [HBUY.out]
   have HOE := Lib.hid hoe
   have HBC : Hid (Below w4.heap.size w4 w4.drew) := Lib.hid (Below.refl _ _).drew
   clear hCL hoe l0
   refine wp_region_held_drew (S := (fun W => W.cell? ⟨w.heap.size, 0, none⟩ = some (.int .i64 o.id) ∧ W.cell? ⟨w.heap.size, 1, none⟩ = some (.string o.who) ∧ W.cell? ⟨w.heap.size, 2, none⟩ = some (.bool false) ∧ W.cell? ⟨w.heap.size, 3, none⟩ = some (.int .i64 o.item) ∧ W.cell? ⟨w.heap.size, 4, none⟩ = some (.int .i64 ct) ∧ W.cell? ⟨w.heap.size, 5, none⟩ = some (.int .i64 o.pr))) (by kernel_rfl) ⟨p0, p1, p2, p3, p4, p5⟩ (fun hHeld => ?_)
   generalize w4.drew = wd at *
   refine tkY 0 (some 124) ?v0n_1 rfl ?y0n_1 ?r0n_1
   case y0n_1 => exact tY
   case r0n_1 =>
   try simp only [q1,q2,q3,q4,q5]
   refine tkY 2 (some 126) ?v2n_4 rfl ?y2n_4 ?r2n_4
   case y2n_4 => exact tY
   case r2n_4 =>
   try simp only [q1,q2,q3,q4,q5]
   refine tkY 3 (some 127) ?v3n_7 rfl ?y3n_7 ?r3n_7
   case y3n_7 => exact tY
   case r3n_7 =>
   try simp only [q1,q2,q3,q4,q5]
   refine tkY 4 (some 128) ?v4n_10 rfl ?y4n_10 ?r4n_10
   case y4n_10 => exact tY
   case r4n_10 =>
   try simp only [q1,q2,q3,q4,q5]
   refine tkY 7 (some 131) ?v7n_13 rfl ?y7n_13 ?r7n_13
   case y7n_13 => exact tY
   case r7n_13 =>
   try simp only [q1,q2,q3,q4,q5]
   refine wpAnyH_ready (rs := [1, 5, 8]) (by kernel_rfl) (by simp) ?_
   refine AllReadyH.cons (o := ⟨some 125, _, _, _, _, _⟩) rfl (fun K hK => ?_) (AllReadyH.cons (o := ⟨some 129, _, _, _, _, _⟩) rfl (fun K hK => ?_) (AllReadyH.cons (o := ⟨some 132, _, _, _, _, _⟩) rfl (fun K hK => ?_) AllReadyH.nil))
   ·
    go_simp
    have hsc := HBC.out.size
    replace HBC : Hid (Below w4.heap.size w4 (wd.alloc (.cells #[] 38))) := Lib.hid (HBC.out.alloc hsc _)
    have HLIT : Hid ((wd.alloc (.cells #[] 38)).ownsRow w4.heap.size 38 6 (.slice (some ⟨wd.heap.size, 0, none⟩) 0 0) 0 []) := Lib.hid (owns_lit0 rfl hsc)
    have hgl : w4.heap.size ≤ wd.heap.size := hsc
    have hln : wd.heap.size < (wd.alloc (.cells #[] 38)).heap.size := by simp
    generalize (wd.alloc (.cells #[] 38)) = wx1 at *
    generalize wd.heap.size = gl at *
    refine hK.out _ _ k0Vb31 (fun hHeld => ?_)
    clear hK K
    try simp only [q1,q2,q3,q4,q5]
    refine wpAnyH_ready (rs := [5, 8]) (by kernel_rfl) (by simp) ?_
    refine AllReadyH.cons (o := ⟨some 129, _, _, _, _, _⟩) rfl (fun K hK => ?_) (AllReadyH.cons (o := ⟨some 132, _, _, _, _, _⟩) rfl (fun K hK => ?_) AllReadyH.nil)
    ·
     have kx := bkeep HBC.out l4 hx4
     go_simp
     refine hK.out _ _ k0Vb31 (fun hHeld => ?_)
     clear hK K
     try simp only [q1,q2,q3,q4,q5]
     refine wpAnyH_ready (rs := [6, 8]) (by kernel_rfl) (by simp) ?_
     refine AllReadyH.cons (o := ⟨some 130, _, _, _, _, _⟩) rfl (fun K hK => ?_) (AllReadyH.cons (o := ⟨some 132, _, _, _, _, _⟩) rfl (fun K hK => ?_) AllReadyH.nil)
     ·
      have hsc := HBC.out.size
      have hcl := cells_keep HCL.out HBC.out (Nat.le_refl _)
      refine step_append_cells rfl (.tmp 125) (.tmp 129) 57 rfl w4.heap.size 38 i0 (.agg #[.int .i64 0, .string ⟨#[]⟩, .bool false, .int .i64 0, .int .i64 0, .int .i64 0]) 6 56 Tryz.underlying57 hi0 hz0 hz1 hz2 rfl (by decide) (.slice (some ⟨gl, 0, none⟩) 0 0) 0 [] rfl HLIT.out w4.heap.size A1 L1.length c1 (flatO L1) rfl hcl (flatO_one _) (by unfold maxLen; omega) (by omega) hsc ?_
      intro v5 wx2 hown5 ht5 hb5
      rw [Nat.zero_add, List.nil_append] at hown5
      replace HBC := Lib.hid (HBC.out.trans (ht5.below hsc (by intro k hk; simp [Value.ownBlock] at hk; omega)))
      have HO5 := Lib.hid hown5
      clear hown5 ht5 hb5 hcl
      refine hK.out _ _ k0Vb31 (fun hHeld => ?_)
      clear hK K
      try simp only [q1,q2,q3,q4,q5]
      refine wpAnyH_ready (rs := [8]) (by kernel_rfl) (by simp) ?_
      refine AllReadyH.cons (o := ⟨some 132, _, _, _, _, _⟩) rfl (fun K hK => ?_) AllReadyH.nil
      go_simp
      have hsc := HBC.out.size
      replace HBC : Hid (Below w4.heap.size w4 (wx2.alloc (.cells #[.int .i64 o.id, .string o.who, .bool false, .int .i64 o.item, .int .i64 ct, .int .i64 o.pr] 38))) := Lib.hid (HBC.out.alloc hsc _)
      have HCO : Hid (Cells (wx2.alloc (.cells #[.int .i64 o.id, .string o.who, .bool false, .int .i64 o.item, .int .i64 ct, .int .i64 o.pr] 38)) (wx2.alloc (.cells #[.int .i64 o.id, .string o.who, .bool false, .int .i64 o.item, .int .i64 ct, .int .i64 o.pr] 38)).heap.size (some ⟨wx2.heap.size, 0, none⟩) 1 1 6 (odV (o.at ct))) := Lib.hid (by rw [← HOE.out]; exact od_cells _)
      replace HO5 : Hid ((wx2.alloc (.cells #[.int .i64 o.id, .string o.who, .bool false, .int .i64 o.item, .int .i64 ct, .int .i64 o.pr] 38)).ownsRow w4.heap.size 38 6 v5 L1.length (flatO L1)) := Lib.hid (((Touch.refl (fun _ => False) _).alloc _).own HO5.out (fun _ _ h => h))
      have hbn : wx2.heap.size < (wx2.alloc (.cells #[.int .i64 o.id, .string o.who, .bool false, .int .i64 o.item, .int .i64 ct, .int .i64 o.pr] 38)).heap.size := by simp
      generalize (wx2.alloc (.cells #[.int .i64 o.id, .string o.who, .bool false, .int .i64 o.item, .int .i64 ct, .int .i64 o.pr] 38)) = wx3 at *
      generalize wx2.heap.size = gb at *
      generalize wx3.heap.size = bb at HCO
      refine hK.out _ _ k0Vb31 (fun hHeld => ?_)
      clear hK K
      try simp only [q1,q2,q3,q4,q5]
      refine wpAnyH_ready (rs := [9]) (by kernel_rfl) (by simp) ?_
      refine AllReadyH.cons (o := ⟨some 133, _, _, _, _, _⟩) rfl (fun K hK => ?_) AllReadyH.nil
      have hsc := HBC.out.size
      have hco := HCO.out
      refine step_append_cells rfl (.tmp 130) (.tmp 132) 57 rfl w4.heap.size 38 i0 (.agg #[.int .i64 0, .string ⟨#[]⟩, .bool false, .int .i64 0, .int .i64 0, .int .i64 0]) 6 56 Tryz.underlying57 hi0 hz0 hz1 hz2 rfl (by decide) v5 L1.length (flatO L1) rfl HO5.out bb (some ⟨gb, 0, none⟩) 1 1 (odV (o.at ct)) rfl hco (od_one _) (by unfold maxLen; omega) (by omega) hsc ?_
      intro v6 wx4 hown6 ht6 hb6
      replace HBC := Lib.hid (HBC.out.trans (ht6.below hsc (fun k hk => (HO5.out.lt k hk).1)))
      have hfl : flatO L1 ++ odV (o.at ct) = flatO (L1 ++ [o.at ct]) := by rw [flatO_app]; simp [flatO]
      rw [hfl] at hown6
      have HO6 := Lib.hid hown6
      clear hown6 ht6 hb6 hco hfl
      refine hK.out _ _ k0Vb31 (fun hHeld => ?_)
      clear hK K
      try simp only [q1,q2,q3,q4,q5]
      refine tkY 10 (some 134) ?v10n_77 rfl ?y10n_77 ?r10n_77
      case y10n_77 => exact tY
      case r10n_77 =>
      try simp only [q1,q2,q3,q4,q5]
      refine tkY 11 (some 135) ?v11n_80 rfl ?y11n_80 ?r11n_80
      case y11n_80 => exact tY
      case r11n_80 =>
      try simp only [q1,q2,q3,q4,q5]
      refine wpAnyH_ready (rs := [12]) (by kernel_rfl) (by simp) ?_
      refine AllReadyH.cons (o := ⟨none, _, _, _, _, _⟩) rfl (fun K hK => ?_) AllReadyH.nil
      have kx := bkeep HBC.out l4 hx4
      have fx := (HB4.out.blk.below HBC.out hx4).free 0
      obtain ⟨A6, c6, hv6, _, _, _⟩ := own_slice HO6.out
      subst hv6
      go_simp
      refine hK.out _ _ k0Vb31 (fun hHeld => ?_)
      clear hK K
      try simp only [q1,q2,q3,q4,q5]
      refine wpAnyH_done (by kernel_rfl) ?_ _
      go_wp2_with fail
      obtain ⟨hR6, hT6, hN6⟩ := HB4.out.setrow HBC.out HO6.out (by simp)
      have hp4 := hT6.cell p4 hxD
      generalize wx4.setCell ⟨x, 0, none⟩ (.slice A6 (L1.length + 1) c6) = W6 at *
      go_region
      go_wp2_with fail
      have hdr : Touch (fun _ => False) W6 W6.drew := Touch.of_drew _ _
      refine bodyPost_ret (v := .tuple #[tv, .int .i64 ct, .int .i64 0]) (by simp [results, Tryz.results49, go_sem, *]) rfl ⟨Tl, ct, 0, L1 ++ [o.at ct], o.id, _, tv, rfl, ?_, hR6.keep hdr (fun _ _ h => h), own_baseO (hdr.own (hT6.own HO4.out (fun g hg e => HAP.out g hg (.inl e))) (fun _ _ h => h)) (by omega), fun k hk hf => ?_, (HT4.out.trans hT6 (fun n hn h => .inl h)).trans hdr (fun _ _ h => h.elim), fun k hk => ?_⟩
      ·
       have hpp : Places o L Tl (o.at ct) L1 := by have := HPL.out [] _ _ (.done _ _ (.inr HNM.out)); simpa using this
       have := PlacedR.ok (last := last) HOK.out (by omega) (by omega) Tl (o.at ct) L1 hpp hTl2
       rw [show laid (o.at ct) L1 = L1 ++ [o.at ct] from if_pos hz] at this
       exact this
      ·
       rcases hf with e | hf
       · exact HAP.out k hk (.inl e)
       ·
        have h1 := hN6 k hf
        have h2 := (HO4.out.lt k hk).2
        omega
      ·
       rcases hk with e | hk
       · exact .inl (.inl e)
       ·
        have h1 := hN6 k hk
        exact .inr (by omega)
     ·
      go_simp
      have hsc := HBC.out.size
      replace HBC : Hid (Below w4.heap.size w4 (wx1.alloc (.cells #[.int .i64 o.id, .string o.who, .bool false, .int .i64 o.item, .int .i64 ct, .int .i64 o.pr] 38))) := Lib.hid (HBC.out.alloc hsc _)
      have HCO : Hid (Cells (wx1.alloc (.cells #[.int .i64 o.id, .string o.who, .bool false, .int .i64 o.item, .int .i64 ct, .int .i64 o.pr] 38)) (wx1.alloc (.cells #[.int .i64 o.id, .string o.who, .bool false, .int .i64 o.item, .int .i64 ct, .int .i64 o.pr] 38)).heap.size (some ⟨wx1.heap.size, 0, none⟩) 1 1 6 (odV (o.at ct))) := Lib.hid (by rw [← HOE.out]; exact od_cells _)
      have hgne : wx1.heap.size ≠ gl := by omega
      replace HLIT : Hid ((wx1.alloc (.cells #[.int .i64 o.id, .string o.who, .bool false, .int .i64 o.item, .int .i64 ct, .int .i64 o.pr] 38)).ownsRow w4.heap.size 38 6 (.slice (some ⟨gl, 0, none⟩) 0 0) 0 []) := Lib.hid (((Touch.refl (fun _ => False) _).alloc _).own HLIT.out (fun _ _ h => h))
      have hbn : wx1.heap.size < (wx1.alloc (.cells #[.int .i64 o.id, .string o.who, .bool false, .int .i64 o.item, .int .i64 ct, .int .i64 o.pr] 38)).heap.size := by simp
      generalize (wx1.alloc (.cells #[.int .i64 o.id, .string o.who, .bool false, .int .i64 o.item, .int .i64 ct, .int .i64 o.pr] 38)) = wx2 at *
      generalize wx1.heap.size = gb at *
      generalize wx2.heap.size = bb at HCO
      refine hK.out _ _ k0Vb31 (fun hHeld => ?_)
      clear hK K
      try simp only [q1,q2,q3,q4,q5]
      refine wpAnyH_ready (rs := [6]) (by kernel_rfl) (by simp) ?_
      refine AllReadyH.cons (o := ⟨some 130, _, _, _, _, _⟩) rfl (fun K hK => ?_) AllReadyH.nil
      have hsc := HBC.out.size
      have hcl := cells_keep HCL.out HBC.out (Nat.le_refl _)
      refine step_append_cells rfl (.tmp 125) (.tmp 129) 57 rfl w4.heap.size 38 i0 (.agg #[.int .i64 0, .string ⟨#[]⟩, .bool false, .int .i64 0, .int .i64 0, .int .i64 0]) 6 56 Tryz.underlying57 hi0 hz0 hz1 hz2 rfl (by decide) (.slice (some ⟨gl, 0, none⟩) 0 0) 0 [] rfl HLIT.out w4.heap.size A1 L1.length c1 (flatO L1) rfl hcl (flatO_one _) (by unfold maxLen; omega) (by omega) hsc ?_
      intro v5 wx3 hown5 ht5 hb5
      rw [Nat.zero_add, List.nil_append] at hown5
      replace HBC := Lib.hid (HBC.out.trans (ht5.below hsc (by intro k hk; simp [Value.ownBlock] at hk; omega)))
      have HO5 := Lib.hid hown5
      replace HCO := Lib.hid (ht5.cells HCO.out (by intro a ha hh; injection ha with ha; subst ha; simp [Value.ownBlock] at hh; omega))
      clear hown5 ht5 hb5 hcl
      refine hK.out _ _ k0Vb31 (fun hHeld => ?_)
      clear hK K
      try simp only [q1,q2,q3,q4,q5]
      refine wpAnyH_ready (rs := [9]) (by kernel_rfl) (by simp) ?_
      refine AllReadyH.cons (o := ⟨some 133, _, _, _, _, _⟩) rfl (fun K hK => ?_) AllReadyH.nil
      have hsc := HBC.out.size
      have hco := HCO.out
      refine step_append_cells rfl (.tmp 130) (.tmp 132) 57 rfl w4.heap.size 38 i0 (.agg #[.int .i64 0, .string ⟨#[]⟩, .bool false, .int .i64 0, .int .i64 0, .int .i64 0]) 6 56 Tryz.underlying57 hi0 hz0 hz1 hz2 rfl (by decide) v5 L1.length (flatO L1) rfl HO5.out bb (some ⟨gb, 0, none⟩) 1 1 (odV (o.at ct)) rfl hco (od_one _) (by unfold maxLen; omega) (by omega) hsc ?_
      intro v6 wx4 hown6 ht6 hb6
      replace HBC := Lib.hid (HBC.out.trans (ht6.below hsc (fun k hk => (HO5.out.lt k hk).1)))
      have hfl : flatO L1 ++ odV (o.at ct) = flatO (L1 ++ [o.at ct]) := by rw [flatO_app]; simp [flatO]
      rw [hfl] at hown6
      have HO6 := Lib.hid hown6
      clear hown6 ht6 hb6 hco hfl
      refine hK.out _ _ k0Vb31 (fun hHeld => ?_)
      clear hK K
      try simp only [q1,q2,q3,q4,q5]
      refine tkY 10 (some 134) ?v10n_156 rfl ?y10n_156 ?r10n_156
      case y10n_156 => exact tY
      case r10n_156 =>
      try simp only [q1,q2,q3,q4,q5]
      refine tkY 11 (some 135) ?v11n_159 rfl ?y11n_159 ?r11n_159
      case y11n_159 => exact tY
      case r11n_159 =>
      try simp only [q1,q2,q3,q4,q5]
      refine wpAnyH_ready (rs := [12]) (by kernel_rfl) (by simp) ?_
      refine AllReadyH.cons (o := ⟨none, _, _, _, _, _⟩) rfl (fun K hK => ?_) AllReadyH.nil
      have kx := bkeep HBC.out l4 hx4
      have fx := (HB4.out.blk.below HBC.out hx4).free 0
      obtain ⟨A6, c6, hv6, _, _, _⟩ := own_slice HO6.out
      subst hv6
      go_simp
      refine hK.out _ _ k0Vb31 (fun hHeld => ?_)
      clear hK K
      try simp only [q1,q2,q3,q4,q5]
      refine wpAnyH_done (by kernel_rfl) ?_ _
      go_wp2_with fail
      obtain ⟨hR6, hT6, hN6⟩ := HB4.out.setrow HBC.out HO6.out (by simp)
      have hp4 := hT6.cell p4 hxD
      generalize wx4.setCell ⟨x, 0, none⟩ (.slice A6 (L1.length + 1) c6) = W6 at *
      go_region
      go_wp2_with fail
      have hdr : Touch (fun _ => False) W6 W6.drew := Touch.of_drew _ _
      refine bodyPost_ret (v := .tuple #[tv, .int .i64 ct, .int .i64 0]) (by simp [results, Tryz.results49, go_sem, *]) rfl ⟨Tl, ct, 0, L1 ++ [o.at ct], o.id, _, tv, rfl, ?_, hR6.keep hdr (fun _ _ h => h), own_baseO (hdr.own (hT6.own HO4.out (fun g hg e => HAP.out g hg (.inl e))) (fun _ _ h => h)) (by omega), fun k hk hf => ?_, (HT4.out.trans hT6 (fun n hn h => .inl h)).trans hdr (fun _ _ h => h.elim), fun k hk => ?_⟩
      ·
       have hpp : Places o L Tl (o.at ct) L1 := by have := HPL.out [] _ _ (.done _ _ (.inr HNM.out)); simpa using this
       have := PlacedR.ok (last := last) HOK.out (by omega) (by omega) Tl (o.at ct) L1 hpp hTl2
       rw [show laid (o.at ct) L1 = L1 ++ [o.at ct] from if_pos hz] at this
       exact this
      ·
       rcases hf with e | hf
       · exact HAP.out k hk (.inl e)
       ·
        have h1 := hN6 k hf
        have h2 := (HO4.out.lt k hk).2
        omega
      ·
       rcases hk with e | hk
       · exact .inl (.inl e)
       ·
        have h1 := hN6 k hk
        exact .inr (by omega)
    ·
     go_simp
     have hsc := HBC.out.size
     replace HBC : Hid (Below w4.heap.size w4 (wx1.alloc (.cells #[.int .i64 o.id, .string o.who, .bool false, .int .i64 o.item, .int .i64 ct, .int .i64 o.pr] 38))) := Lib.hid (HBC.out.alloc hsc _)
     have HCO : Hid (Cells (wx1.alloc (.cells #[.int .i64 o.id, .string o.who, .bool false, .int .i64 o.item, .int .i64 ct, .int .i64 o.pr] 38)) (wx1.alloc (.cells #[.int .i64 o.id, .string o.who, .bool false, .int .i64 o.item, .int .i64 ct, .int .i64 o.pr] 38)).heap.size (some ⟨wx1.heap.size, 0, none⟩) 1 1 6 (odV (o.at ct))) := Lib.hid (by rw [← HOE.out]; exact od_cells _)
     have hgne : wx1.heap.size ≠ gl := by omega
     replace HLIT : Hid ((wx1.alloc (.cells #[.int .i64 o.id, .string o.who, .bool false, .int .i64 o.item, .int .i64 ct, .int .i64 o.pr] 38)).ownsRow w4.heap.size 38 6 (.slice (some ⟨gl, 0, none⟩) 0 0) 0 []) := Lib.hid (((Touch.refl (fun _ => False) _).alloc _).own HLIT.out (fun _ _ h => h))
     have hbn : wx1.heap.size < (wx1.alloc (.cells #[.int .i64 o.id, .string o.who, .bool false, .int .i64 o.item, .int .i64 ct, .int .i64 o.pr] 38)).heap.size := by simp
     generalize (wx1.alloc (.cells #[.int .i64 o.id, .string o.who, .bool false, .int .i64 o.item, .int .i64 ct, .int .i64 o.pr] 38)) = wx2 at *
     generalize wx1.heap.size = gb at *
     generalize wx2.heap.size = bb at HCO
     refine hK.out _ _ k0Vb31 (fun hHeld => ?_)
     clear hK K
     try simp only [q1,q2,q3,q4,q5]
     refine wpAnyH_ready (rs := [5]) (by kernel_rfl) (by simp) ?_
     refine AllReadyH.cons (o := ⟨some 129, _, _, _, _, _⟩) rfl (fun K hK => ?_) AllReadyH.nil
     have kx := bkeep HBC.out l4 hx4
     go_simp
     refine hK.out _ _ k0Vb31 (fun hHeld => ?_)
     clear hK K
     try simp only [q1,q2,q3,q4,q5]
     refine wpAnyH_ready (rs := [6]) (by kernel_rfl) (by simp) ?_
     refine AllReadyH.cons (o := ⟨some 130, _, _, _, _, _⟩) rfl (fun K hK => ?_) AllReadyH.nil
     have hsc := HBC.out.size
     have hcl := cells_keep HCL.out HBC.out (Nat.le_refl _)
     refine step_append_cells rfl (.tmp 125) (.tmp 129) 57 rfl w4.heap.size 38 i0 (.agg #[.int .i64 0, .string ⟨#[]⟩, .bool false, .int .i64 0, .int .i64 0, .int .i64 0]) 6 56 Tryz.underlying57 hi0 hz0 hz1 hz2 rfl (by decide) (.slice (some ⟨gl, 0, none⟩) 0 0) 0 [] rfl HLIT.out w4.heap.size A1 L1.length c1 (flatO L1) rfl hcl (flatO_one _) (by unfold maxLen; omega) (by omega) hsc ?_
     intro v5 wx3 hown5 ht5 hb5
     rw [Nat.zero_add, List.nil_append] at hown5
     replace HBC := Lib.hid (HBC.out.trans (ht5.below hsc (by intro k hk; simp [Value.ownBlock] at hk; omega)))
     have HO5 := Lib.hid hown5
     replace HCO := Lib.hid (ht5.cells HCO.out (by intro a ha hh; injection ha with ha; subst ha; simp [Value.ownBlock] at hh; omega))
     clear hown5 ht5 hb5 hcl
     refine hK.out _ _ k0Vb31 (fun hHeld => ?_)
     clear hK K
     try simp only [q1,q2,q3,q4,q5]
     refine wpAnyH_ready (rs := [9]) (by kernel_rfl) (by simp) ?_
     refine AllReadyH.cons (o := ⟨some 133, _, _, _, _, _⟩) rfl (fun K hK => ?_) AllReadyH.nil
     have hsc := HBC.out.size
     have hco := HCO.out
     refine step_append_cells rfl (.tmp 130) (.tmp 132) 57 rfl w4.heap.size 38 i0 (.agg #[.int .i64 0, .string ⟨#[]⟩, .bool false, .int .i64 0, .int .i64 0, .int .i64 0]) 6 56 Tryz.underlying57 hi0 hz0 hz1 hz2 rfl (by decide) v5 L1.length (flatO L1) rfl HO5.out bb (some ⟨gb, 0, none⟩) 1 1 (odV (o.at ct)) rfl hco (od_one _) (by unfold maxLen; omega) (by omega) hsc ?_
     intro v6 wx4 hown6 ht6 hb6
     replace HBC := Lib.hid (HBC.out.trans (ht6.below hsc (fun k hk => (HO5.out.lt k hk).1)))
     have hfl : flatO L1 ++ odV (o.at ct) = flatO (L1 ++ [o.at ct]) := by rw [flatO_app]; simp [flatO]
     rw [hfl] at hown6
     have HO6 := Lib.hid hown6
     clear hown6 ht6 hb6 hco hfl
     refine hK.out _ _ k0Vb31 (fun hHeld => ?_)
     clear hK K
     try simp only [q1,q2,q3,q4,q5]
     refine tkY 10 (some 134) ?v10n_242 rfl ?y10n_242 ?r10n_242
     case y10n_242 => exact tY
     case r10n_242 =>
     try simp only [q1,q2,q3,q4,q5]
     refine tkY 11 (some 135) ?v11n_245 rfl ?y11n_245 ?r11n_245
     case y11n_245 => exact tY
     case r11n_245 =>
     try simp only [q1,q2,q3,q4,q5]
     refine wpAnyH_ready (rs := [12]) (by kernel_rfl) (by simp) ?_
     refine AllReadyH.cons (o := ⟨none, _, _, _, _, _⟩) rfl (fun K hK => ?_) AllReadyH.nil
     have kx := bkeep HBC.out l4 hx4
     have fx := (HB4.out.blk.below HBC.out hx4).free 0
     obtain ⟨A6, c6, hv6, _, _, _⟩ := own_slice HO6.out
     subst hv6
     go_simp
     refine hK.out _ _ k0Vb31 (fun hHeld => ?_)
     clear hK K
     try simp only [q1,q2,q3,q4,q5]
     refine wpAnyH_done (by kernel_rfl) ?_ _
     go_wp2_with fail
     obtain ⟨hR6, hT6, hN6⟩ := HB4.out.setrow HBC.out HO6.out (by simp)
     have hp4 := hT6.cell p4 hxD
     generalize wx4.setCell ⟨x, 0, none⟩ (.slice A6 (L1.length + 1) c6) = W6 at *
     go_region
     go_wp2_with fail
     have hdr : Touch (fun _ => False) W6 W6.drew := Touch.of_drew _ _
     refine bodyPost_ret (v := .tuple #[tv, .int .i64 ct, .int .i64 0]) (by simp [results, Tryz.results49, go_sem, *]) rfl ⟨Tl, ct, 0, L1 ++ [o.at ct], o.id, _, tv, rfl, ?_, hR6.keep hdr (fun _ _ h => h), own_baseO (hdr.own (hT6.own HO4.out (fun g hg e => HAP.out g hg (.inl e))) (fun _ _ h => h)) (by omega), fun k hk hf => ?_, (HT4.out.trans hT6 (fun n hn h => .inl h)).trans hdr (fun _ _ h => h.elim), fun k hk => ?_⟩
     ·
      have hpp : Places o L Tl (o.at ct) L1 := by have := HPL.out [] _ _ (.done _ _ (.inr HNM.out)); simpa using this
      have := PlacedR.ok (last := last) HOK.out (by omega) (by omega) Tl (o.at ct) L1 hpp hTl2
      rw [show laid (o.at ct) L1 = L1 ++ [o.at ct] from if_pos hz] at this
      exact this
     ·
      rcases hf with e | hf
      · exact HAP.out k hk (.inl e)
      ·
       have h1 := hN6 k hf
       have h2 := (HO4.out.lt k hk).2
       omega
     ·
      rcases hk with e | hk
      · exact .inl (.inl e)
      ·
       have h1 := hN6 k hk
       exact .inr (by omega)
   ·
    have kx := bkeep HBC.out l4 hx4
    go_simp
    refine hK.out _ _ k0Vb31 (fun hHeld => ?_)
    clear hK K
    try simp only [q1,q2,q3,q4,q5]
    refine wpAnyH_ready (rs := [1, 8]) (by kernel_rfl) (by simp) ?_
    refine AllReadyH.cons (o := ⟨some 125, _, _, _, _, _⟩) rfl (fun K hK => ?_) (AllReadyH.cons (o := ⟨some 132, _, _, _, _, _⟩) rfl (fun K hK => ?_) AllReadyH.nil)
    ·
     go_simp
     have hsc := HBC.out.size
     replace HBC : Hid (Below w4.heap.size w4 (wd.alloc (.cells #[] 38))) := Lib.hid (HBC.out.alloc hsc _)
     have HLIT : Hid ((wd.alloc (.cells #[] 38)).ownsRow w4.heap.size 38 6 (.slice (some ⟨wd.heap.size, 0, none⟩) 0 0) 0 []) := Lib.hid (owns_lit0 rfl hsc)
     have hgl : w4.heap.size ≤ wd.heap.size := hsc
     have hln : wd.heap.size < (wd.alloc (.cells #[] 38)).heap.size := by simp
     generalize (wd.alloc (.cells #[] 38)) = wx1 at *
     generalize wd.heap.size = gl at *
     refine hK.out _ _ k0Vb31 (fun hHeld => ?_)
     clear hK K
     try simp only [q1,q2,q3,q4,q5]
     refine wpAnyH_ready (rs := [6, 8]) (by kernel_rfl) (by simp) ?_
     refine AllReadyH.cons (o := ⟨some 130, _, _, _, _, _⟩) rfl (fun K hK => ?_) (AllReadyH.cons (o := ⟨some 132, _, _, _, _, _⟩) rfl (fun K hK => ?_) AllReadyH.nil)
     ·
      have hsc := HBC.out.size
      have hcl := cells_keep HCL.out HBC.out (Nat.le_refl _)
      refine step_append_cells rfl (.tmp 125) (.tmp 129) 57 rfl w4.heap.size 38 i0 (.agg #[.int .i64 0, .string ⟨#[]⟩, .bool false, .int .i64 0, .int .i64 0, .int .i64 0]) 6 56 Tryz.underlying57 hi0 hz0 hz1 hz2 rfl (by decide) (.slice (some ⟨gl, 0, none⟩) 0 0) 0 [] rfl HLIT.out w4.heap.size A1 L1.length c1 (flatO L1) rfl hcl (flatO_one _) (by unfold maxLen; omega) (by omega) hsc ?_
      intro v5 wx2 hown5 ht5 hb5
      rw [Nat.zero_add, List.nil_append] at hown5
      replace HBC := Lib.hid (HBC.out.trans (ht5.below hsc (by intro k hk; simp [Value.ownBlock] at hk; omega)))
      have HO5 := Lib.hid hown5
      clear hown5 ht5 hb5 hcl
      refine hK.out _ _ k0Vb31 (fun hHeld => ?_)
      clear hK K
      try simp only [q1,q2,q3,q4,q5]
      refine wpAnyH_ready (rs := [8]) (by kernel_rfl) (by simp) ?_
      refine AllReadyH.cons (o := ⟨some 132, _, _, _, _, _⟩) rfl (fun K hK => ?_) AllReadyH.nil
      go_simp
      have hsc := HBC.out.size
      replace HBC : Hid (Below w4.heap.size w4 (wx2.alloc (.cells #[.int .i64 o.id, .string o.who, .bool false, .int .i64 o.item, .int .i64 ct, .int .i64 o.pr] 38))) := Lib.hid (HBC.out.alloc hsc _)
      have HCO : Hid (Cells (wx2.alloc (.cells #[.int .i64 o.id, .string o.who, .bool false, .int .i64 o.item, .int .i64 ct, .int .i64 o.pr] 38)) (wx2.alloc (.cells #[.int .i64 o.id, .string o.who, .bool false, .int .i64 o.item, .int .i64 ct, .int .i64 o.pr] 38)).heap.size (some ⟨wx2.heap.size, 0, none⟩) 1 1 6 (odV (o.at ct))) := Lib.hid (by rw [← HOE.out]; exact od_cells _)
      replace HO5 : Hid ((wx2.alloc (.cells #[.int .i64 o.id, .string o.who, .bool false, .int .i64 o.item, .int .i64 ct, .int .i64 o.pr] 38)).ownsRow w4.heap.size 38 6 v5 L1.length (flatO L1)) := Lib.hid (((Touch.refl (fun _ => False) _).alloc _).own HO5.out (fun _ _ h => h))
      have hbn : wx2.heap.size < (wx2.alloc (.cells #[.int .i64 o.id, .string o.who, .bool false, .int .i64 o.item, .int .i64 ct, .int .i64 o.pr] 38)).heap.size := by simp
      generalize (wx2.alloc (.cells #[.int .i64 o.id, .string o.who, .bool false, .int .i64 o.item, .int .i64 ct, .int .i64 o.pr] 38)) = wx3 at *
      generalize wx2.heap.size = gb at *
      generalize wx3.heap.size = bb at HCO
      refine hK.out _ _ k0Vb31 (fun hHeld => ?_)
      clear hK K
      try simp only [q1,q2,q3,q4,q5]
      refine wpAnyH_ready (rs := [9]) (by kernel_rfl) (by simp) ?_
      refine AllReadyH.cons (o := ⟨some 133, _, _, _, _, _⟩) rfl (fun K hK => ?_) AllReadyH.nil
      have hsc := HBC.out.size
      have hco := HCO.out
      refine step_append_cells rfl (.tmp 130) (.tmp 132) 57 rfl w4.heap.size 38 i0 (.agg #[.int .i64 0, .string ⟨#[]⟩, .bool false, .int .i64 0, .int .i64 0, .int .i64 0]) 6 56 Tryz.underlying57 hi0 hz0 hz1 hz2 rfl (by decide) v5 L1.length (flatO L1) rfl HO5.out bb (some ⟨gb, 0, none⟩) 1 1 (odV (o.at ct)) rfl hco (od_one _) (by unfold maxLen; omega) (by omega) hsc ?_
      intro v6 wx4 hown6 ht6 hb6
      replace HBC := Lib.hid (HBC.out.trans (ht6.below hsc (fun k hk => (HO5.out.lt k hk).1)))
      have hfl : flatO L1 ++ odV (o.at ct) = flatO (L1 ++ [o.at ct]) := by rw [flatO_app]; simp [flatO]
      rw [hfl] at hown6
      have HO6 := Lib.hid hown6
      clear hown6 ht6 hb6 hco hfl
      refine hK.out _ _ k0Vb31 (fun hHeld => ?_)
      clear hK K
      try simp only [q1,q2,q3,q4,q5]
      refine tkY 10 (some 134) ?v10n_339 rfl ?y10n_339 ?r10n_339
      case y10n_339 => exact tY
      case r10n_339 =>
      try simp only [q1,q2,q3,q4,q5]
      refine tkY 11 (some 135) ?v11n_342 rfl ?y11n_342 ?r11n_342
      case y11n_342 => exact tY
      case r11n_342 =>
      try simp only [q1,q2,q3,q4,q5]
      refine wpAnyH_ready (rs := [12]) (by kernel_rfl) (by simp) ?_
      refine AllReadyH.cons (o := ⟨none, _, _, _, _, _⟩) rfl (fun K hK => ?_) AllReadyH.nil
      have kx := bkeep HBC.out l4 hx4
      have fx := (HB4.out.blk.below HBC.out hx4).free 0
      obtain ⟨A6, c6, hv6, _, _, _⟩ := own_slice HO6.out
      subst hv6
      go_simp
      refine hK.out _ _ k0Vb31 (fun hHeld => ?_)
      clear hK K
      try simp only [q1,q2,q3,q4,q5]
      refine wpAnyH_done (by kernel_rfl) ?_ _
      go_wp2_with fail
      obtain ⟨hR6, hT6, hN6⟩ := HB4.out.setrow HBC.out HO6.out (by simp)
      have hp4 := hT6.cell p4 hxD
      generalize wx4.setCell ⟨x, 0, none⟩ (.slice A6 (L1.length + 1) c6) = W6 at *
      go_region
      go_wp2_with fail
      have hdr : Touch (fun _ => False) W6 W6.drew := Touch.of_drew _ _
      refine bodyPost_ret (v := .tuple #[tv, .int .i64 ct, .int .i64 0]) (by simp [results, Tryz.results49, go_sem, *]) rfl ⟨Tl, ct, 0, L1 ++ [o.at ct], o.id, _, tv, rfl, ?_, hR6.keep hdr (fun _ _ h => h), own_baseO (hdr.own (hT6.own HO4.out (fun g hg e => HAP.out g hg (.inl e))) (fun _ _ h => h)) (by omega), fun k hk hf => ?_, (HT4.out.trans hT6 (fun n hn h => .inl h)).trans hdr (fun _ _ h => h.elim), fun k hk => ?_⟩
      ·
       have hpp : Places o L Tl (o.at ct) L1 := by have := HPL.out [] _ _ (.done _ _ (.inr HNM.out)); simpa using this
       have := PlacedR.ok (last := last) HOK.out (by omega) (by omega) Tl (o.at ct) L1 hpp hTl2
       rw [show laid (o.at ct) L1 = L1 ++ [o.at ct] from if_pos hz] at this
       exact this
      ·
       rcases hf with e | hf
       · exact HAP.out k hk (.inl e)
       ·
        have h1 := hN6 k hf
        have h2 := (HO4.out.lt k hk).2
        omega
      ·
       rcases hk with e | hk
       · exact .inl (.inl e)
       ·
        have h1 := hN6 k hk
        exact .inr (by omega)
     ·
      go_simp
      have hsc := HBC.out.size
      replace HBC : Hid (Below w4.heap.size w4 (wx1.alloc (.cells #[.int .i64 o.id, .string o.who, .bool false, .int .i64 o.item, .int .i64 ct, .int .i64 o.pr] 38))) := Lib.hid (HBC.out.alloc hsc _)
      have HCO : Hid (Cells (wx1.alloc (.cells #[.int .i64 o.id, .string o.who, .bool false, .int .i64 o.item, .int .i64 ct, .int .i64 o.pr] 38)) (wx1.alloc (.cells #[.int .i64 o.id, .string o.who, .bool false, .int .i64 o.item, .int .i64 ct, .int .i64 o.pr] 38)).heap.size (some ⟨wx1.heap.size, 0, none⟩) 1 1 6 (odV (o.at ct))) := Lib.hid (by rw [← HOE.out]; exact od_cells _)
      have hgne : wx1.heap.size ≠ gl := by omega
      replace HLIT : Hid ((wx1.alloc (.cells #[.int .i64 o.id, .string o.who, .bool false, .int .i64 o.item, .int .i64 ct, .int .i64 o.pr] 38)).ownsRow w4.heap.size 38 6 (.slice (some ⟨gl, 0, none⟩) 0 0) 0 []) := Lib.hid (((Touch.refl (fun _ => False) _).alloc _).own HLIT.out (fun _ _ h => h))
      have hbn : wx1.heap.size < (wx1.alloc (.cells #[.int .i64 o.id, .string o.who, .bool false, .int .i64 o.item, .int .i64 ct, .int .i64 o.pr] 38)).heap.size := by simp
      generalize (wx1.alloc (.cells #[.int .i64 o.id, .string o.who, .bool false, .int .i64 o.item, .int .i64 ct, .int .i64 o.pr] 38)) = wx2 at *
      generalize wx1.heap.size = gb at *
      generalize wx2.heap.size = bb at HCO
      refine hK.out _ _ k0Vb31 (fun hHeld => ?_)
      clear hK K
      try simp only [q1,q2,q3,q4,q5]
      refine wpAnyH_ready (rs := [6]) (by kernel_rfl) (by simp) ?_
      refine AllReadyH.cons (o := ⟨some 130, _, _, _, _, _⟩) rfl (fun K hK => ?_) AllReadyH.nil
      have hsc := HBC.out.size
      have hcl := cells_keep HCL.out HBC.out (Nat.le_refl _)
      refine step_append_cells rfl (.tmp 125) (.tmp 129) 57 rfl w4.heap.size 38 i0 (.agg #[.int .i64 0, .string ⟨#[]⟩, .bool false, .int .i64 0, .int .i64 0, .int .i64 0]) 6 56 Tryz.underlying57 hi0 hz0 hz1 hz2 rfl (by decide) (.slice (some ⟨gl, 0, none⟩) 0 0) 0 [] rfl HLIT.out w4.heap.size A1 L1.length c1 (flatO L1) rfl hcl (flatO_one _) (by unfold maxLen; omega) (by omega) hsc ?_
      intro v5 wx3 hown5 ht5 hb5
      rw [Nat.zero_add, List.nil_append] at hown5
      replace HBC := Lib.hid (HBC.out.trans (ht5.below hsc (by intro k hk; simp [Value.ownBlock] at hk; omega)))
      have HO5 := Lib.hid hown5
      replace HCO := Lib.hid (ht5.cells HCO.out (by intro a ha hh; injection ha with ha; subst ha; simp [Value.ownBlock] at hh; omega))
      clear hown5 ht5 hb5 hcl
      refine hK.out _ _ k0Vb31 (fun hHeld => ?_)
      clear hK K
      try simp only [q1,q2,q3,q4,q5]
      refine wpAnyH_ready (rs := [9]) (by kernel_rfl) (by simp) ?_
      refine AllReadyH.cons (o := ⟨some 133, _, _, _, _, _⟩) rfl (fun K hK => ?_) AllReadyH.nil
      have hsc := HBC.out.size
      have hco := HCO.out
      refine step_append_cells rfl (.tmp 130) (.tmp 132) 57 rfl w4.heap.size 38 i0 (.agg #[.int .i64 0, .string ⟨#[]⟩, .bool false, .int .i64 0, .int .i64 0, .int .i64 0]) 6 56 Tryz.underlying57 hi0 hz0 hz1 hz2 rfl (by decide) v5 L1.length (flatO L1) rfl HO5.out bb (some ⟨gb, 0, none⟩) 1 1 (odV (o.at ct)) rfl hco (od_one _) (by unfold maxLen; omega) (by omega) hsc ?_
      intro v6 wx4 hown6 ht6 hb6
      replace HBC := Lib.hid (HBC.out.trans (ht6.below hsc (fun k hk => (HO5.out.lt k hk).1)))
      have hfl : flatO L1 ++ odV (o.at ct) = flatO (L1 ++ [o.at ct]) := by rw [flatO_app]; simp [flatO]
      rw [hfl] at hown6
      have HO6 := Lib.hid hown6
      clear hown6 ht6 hb6 hco hfl
      refine hK.out _ _ k0Vb31 (fun hHeld => ?_)
      clear hK K
      try simp only [q1,q2,q3,q4,q5]
      refine tkY 10 (some 134) ?v10n_418 rfl ?y10n_418 ?r10n_418
      case y10n_418 => exact tY
      case r10n_418 =>
      try simp only [q1,q2,q3,q4,q5]
      refine tkY 11 (some 135) ?v11n_421 rfl ?y11n_421 ?r11n_421
      case y11n_421 => exact tY
      case r11n_421 =>
      try simp only [q1,q2,q3,q4,q5]
      refine wpAnyH_ready (rs := [12]) (by kernel_rfl) (by simp) ?_
      refine AllReadyH.cons (o := ⟨none, _, _, _, _, _⟩) rfl (fun K hK => ?_) AllReadyH.nil
      have kx := bkeep HBC.out l4 hx4
      have fx := (HB4.out.blk.below HBC.out hx4).free 0
      obtain ⟨A6, c6, hv6, _, _, _⟩ := own_slice HO6.out
      subst hv6
      go_simp
      refine hK.out _ _ k0Vb31 (fun hHeld => ?_)
      clear hK K
      try simp only [q1,q2,q3,q4,q5]
      refine wpAnyH_done (by kernel_rfl) ?_ _
      go_wp2_with fail
      obtain ⟨hR6, hT6, hN6⟩ := HB4.out.setrow HBC.out HO6.out (by simp)
      have hp4 := hT6.cell p4 hxD
      generalize wx4.setCell ⟨x, 0, none⟩ (.slice A6 (L1.length + 1) c6) = W6 at *
      go_region
      go_wp2_with fail
      have hdr : Touch (fun _ => False) W6 W6.drew := Touch.of_drew _ _
      refine bodyPost_ret (v := .tuple #[tv, .int .i64 ct, .int .i64 0]) (by simp [results, Tryz.results49, go_sem, *]) rfl ⟨Tl, ct, 0, L1 ++ [o.at ct], o.id, _, tv, rfl, ?_, hR6.keep hdr (fun _ _ h => h), own_baseO (hdr.own (hT6.own HO4.out (fun g hg e => HAP.out g hg (.inl e))) (fun _ _ h => h)) (by omega), fun k hk hf => ?_, (HT4.out.trans hT6 (fun n hn h => .inl h)).trans hdr (fun _ _ h => h.elim), fun k hk => ?_⟩
      ·
       have hpp : Places o L Tl (o.at ct) L1 := by have := HPL.out [] _ _ (.done _ _ (.inr HNM.out)); simpa using this
       have := PlacedR.ok (last := last) HOK.out (by omega) (by omega) Tl (o.at ct) L1 hpp hTl2
       rw [show laid (o.at ct) L1 = L1 ++ [o.at ct] from if_pos hz] at this
       exact this
      ·
       rcases hf with e | hf
       · exact HAP.out k hk (.inl e)
       ·
        have h1 := hN6 k hf
        have h2 := (HO4.out.lt k hk).2
        omega
      ·
       rcases hk with e | hk
       · exact .inl (.inl e)
       ·
        have h1 := hN6 k hk
        exact .inr (by omega)
    ·
     go_simp
     have hsc := HBC.out.size
     replace HBC : Hid (Below w4.heap.size w4 (wd.alloc (.cells #[.int .i64 o.id, .string o.who, .bool false, .int .i64 o.item, .int .i64 ct, .int .i64 o.pr] 38))) := Lib.hid (HBC.out.alloc hsc _)
     have HCO : Hid (Cells (wd.alloc (.cells #[.int .i64 o.id, .string o.who, .bool false, .int .i64 o.item, .int .i64 ct, .int .i64 o.pr] 38)) (wd.alloc (.cells #[.int .i64 o.id, .string o.who, .bool false, .int .i64 o.item, .int .i64 ct, .int .i64 o.pr] 38)).heap.size (some ⟨wd.heap.size, 0, none⟩) 1 1 6 (odV (o.at ct))) := Lib.hid (by rw [← HOE.out]; exact od_cells _)
     have hbn : wd.heap.size < (wd.alloc (.cells #[.int .i64 o.id, .string o.who, .bool false, .int .i64 o.item, .int .i64 ct, .int .i64 o.pr] 38)).heap.size := by simp
     generalize (wd.alloc (.cells #[.int .i64 o.id, .string o.who, .bool false, .int .i64 o.item, .int .i64 ct, .int .i64 o.pr] 38)) = wx1 at *
     generalize wd.heap.size = gb at *
     generalize wx1.heap.size = bb at HCO
     refine hK.out _ _ k0Vb31 (fun hHeld => ?_)
     clear hK K
     try simp only [q1,q2,q3,q4,q5]
     refine wpAnyH_ready (rs := [1]) (by kernel_rfl) (by simp) ?_
     refine AllReadyH.cons (o := ⟨some 125, _, _, _, _, _⟩) rfl (fun K hK => ?_) AllReadyH.nil
     go_simp
     have hsc := HBC.out.size
     replace HBC : Hid (Below w4.heap.size w4 (wx1.alloc (.cells #[] 38))) := Lib.hid (HBC.out.alloc hsc _)
     have HLIT : Hid ((wx1.alloc (.cells #[] 38)).ownsRow w4.heap.size 38 6 (.slice (some ⟨wx1.heap.size, 0, none⟩) 0 0) 0 []) := Lib.hid (owns_lit0 rfl hsc)
     have hgl : w4.heap.size ≤ wx1.heap.size := hsc
     have hgne : gb ≠ wx1.heap.size := by omega
     replace HCO : Hid (Cells (wx1.alloc (.cells #[] 38)) bb (some ⟨gb, 0, none⟩) 1 1 6 (odV (o.at ct))) := Lib.hid (((Touch.refl (fun _ => False) _).alloc _).cells HCO.out (fun _ _ h => h))
     have hln : wx1.heap.size < (wx1.alloc (.cells #[] 38)).heap.size := by simp
     generalize (wx1.alloc (.cells #[] 38)) = wx2 at *
     generalize wx1.heap.size = gl at *
     refine hK.out _ _ k0Vb31 (fun hHeld => ?_)
     clear hK K
     try simp only [q1,q2,q3,q4,q5]
     refine wpAnyH_ready (rs := [6]) (by kernel_rfl) (by simp) ?_
     refine AllReadyH.cons (o := ⟨some 130, _, _, _, _, _⟩) rfl (fun K hK => ?_) AllReadyH.nil
     have hsc := HBC.out.size
     have hcl := cells_keep HCL.out HBC.out (Nat.le_refl _)
     refine step_append_cells rfl (.tmp 125) (.tmp 129) 57 rfl w4.heap.size 38 i0 (.agg #[.int .i64 0, .string ⟨#[]⟩, .bool false, .int .i64 0, .int .i64 0, .int .i64 0]) 6 56 Tryz.underlying57 hi0 hz0 hz1 hz2 rfl (by decide) (.slice (some ⟨gl, 0, none⟩) 0 0) 0 [] rfl HLIT.out w4.heap.size A1 L1.length c1 (flatO L1) rfl hcl (flatO_one _) (by unfold maxLen; omega) (by omega) hsc ?_
     intro v5 wx3 hown5 ht5 hb5
     rw [Nat.zero_add, List.nil_append] at hown5
     replace HBC := Lib.hid (HBC.out.trans (ht5.below hsc (by intro k hk; simp [Value.ownBlock] at hk; omega)))
     have HO5 := Lib.hid hown5
     replace HCO := Lib.hid (ht5.cells HCO.out (by intro a ha hh; injection ha with ha; subst ha; simp [Value.ownBlock] at hh; omega))
     clear hown5 ht5 hb5 hcl
     refine hK.out _ _ k0Vb31 (fun hHeld => ?_)
     clear hK K
     try simp only [q1,q2,q3,q4,q5]
     refine wpAnyH_ready (rs := [9]) (by kernel_rfl) (by simp) ?_
     refine AllReadyH.cons (o := ⟨some 133, _, _, _, _, _⟩) rfl (fun K hK => ?_) AllReadyH.nil
     have hsc := HBC.out.size
     have hco := HCO.out
     refine step_append_cells rfl (.tmp 130) (.tmp 132) 57 rfl w4.heap.size 38 i0 (.agg #[.int .i64 0, .string ⟨#[]⟩, .bool false, .int .i64 0, .int .i64 0, .int .i64 0]) 6 56 Tryz.underlying57 hi0 hz0 hz1 hz2 rfl (by decide) v5 L1.length (flatO L1) rfl HO5.out bb (some ⟨gb, 0, none⟩) 1 1 (odV (o.at ct)) rfl hco (od_one _) (by unfold maxLen; omega) (by omega) hsc ?_
     intro v6 wx4 hown6 ht6 hb6
     replace HBC := Lib.hid (HBC.out.trans (ht6.below hsc (fun k hk => (HO5.out.lt k hk).1)))
     have hfl : flatO L1 ++ odV (o.at ct) = flatO (L1 ++ [o.at ct]) := by rw [flatO_app]; simp [flatO]
     rw [hfl] at hown6
     have HO6 := Lib.hid hown6
     clear hown6 ht6 hb6 hco hfl
     refine hK.out _ _ k0Vb31 (fun hHeld => ?_)
     clear hK K
     try simp only [q1,q2,q3,q4,q5]
     refine tkY 10 (some 134) ?v10n_510 rfl ?y10n_510 ?r10n_510
     case y10n_510 => exact tY
     case r10n_510 =>
     try simp only [q1,q2,q3,q4,q5]
     refine tkY 11 (some 135) ?v11n_513 rfl ?y11n_513 ?r11n_513
     case y11n_513 => exact tY
     case r11n_513 =>
     try simp only [q1,q2,q3,q4,q5]
     refine wpAnyH_ready (rs := [12]) (by kernel_rfl) (by simp) ?_
     refine AllReadyH.cons (o := ⟨none, _, _, _, _, _⟩) rfl (fun K hK => ?_) AllReadyH.nil
     have kx := bkeep HBC.out l4 hx4
     have fx := (HB4.out.blk.below HBC.out hx4).free 0
     obtain ⟨A6, c6, hv6, _, _, _⟩ := own_slice HO6.out
     subst hv6
     go_simp
     refine hK.out _ _ k0Vb31 (fun hHeld => ?_)
     clear hK K
     try simp only [q1,q2,q3,q4,q5]
     refine wpAnyH_done (by kernel_rfl) ?_ _
     go_wp2_with fail
     obtain ⟨hR6, hT6, hN6⟩ := HB4.out.setrow HBC.out HO6.out (by simp)
     have hp4 := hT6.cell p4 hxD
     generalize wx4.setCell ⟨x, 0, none⟩ (.slice A6 (L1.length + 1) c6) = W6 at *
     go_region
     go_wp2_with fail
     have hdr : Touch (fun _ => False) W6 W6.drew := Touch.of_drew _ _
     refine bodyPost_ret (v := .tuple #[tv, .int .i64 ct, .int .i64 0]) (by simp [results, Tryz.results49, go_sem, *]) rfl ⟨Tl, ct, 0, L1 ++ [o.at ct], o.id, _, tv, rfl, ?_, hR6.keep hdr (fun _ _ h => h), own_baseO (hdr.own (hT6.own HO4.out (fun g hg e => HAP.out g hg (.inl e))) (fun _ _ h => h)) (by omega), fun k hk hf => ?_, (HT4.out.trans hT6 (fun n hn h => .inl h)).trans hdr (fun _ _ h => h.elim), fun k hk => ?_⟩
     ·
      have hpp : Places o L Tl (o.at ct) L1 := by have := HPL.out [] _ _ (.done _ _ (.inr HNM.out)); simpa using this
      have := PlacedR.ok (last := last) HOK.out (by omega) (by omega) Tl (o.at ct) L1 hpp hTl2
      rw [show laid (o.at ct) L1 = L1 ++ [o.at ct] from if_pos hz] at this
      exact this
     ·
      rcases hf with e | hf
      · exact HAP.out k hk (.inl e)
      ·
       have h1 := hN6 k hf
       have h2 := (HO4.out.lt k hk).2
       omega
     ·
      rcases hk with e | hk
      · exact .inl (.inl e)
      ·
       have h1 := hN6 k hk
       exact .inr (by omega)
   ·
    go_simp
    have hsc := HBC.out.size
    replace HBC : Hid (Below w4.heap.size w4 (wd.alloc (.cells #[.int .i64 o.id, .string o.who, .bool false, .int .i64 o.item, .int .i64 ct, .int .i64 o.pr] 38))) := Lib.hid (HBC.out.alloc hsc _)
    have HCO : Hid (Cells (wd.alloc (.cells #[.int .i64 o.id, .string o.who, .bool false, .int .i64 o.item, .int .i64 ct, .int .i64 o.pr] 38)) (wd.alloc (.cells #[.int .i64 o.id, .string o.who, .bool false, .int .i64 o.item, .int .i64 ct, .int .i64 o.pr] 38)).heap.size (some ⟨wd.heap.size, 0, none⟩) 1 1 6 (odV (o.at ct))) := Lib.hid (by rw [← HOE.out]; exact od_cells _)
    have hbn : wd.heap.size < (wd.alloc (.cells #[.int .i64 o.id, .string o.who, .bool false, .int .i64 o.item, .int .i64 ct, .int .i64 o.pr] 38)).heap.size := by simp
    generalize (wd.alloc (.cells #[.int .i64 o.id, .string o.who, .bool false, .int .i64 o.item, .int .i64 ct, .int .i64 o.pr] 38)) = wx1 at *
    generalize wd.heap.size = gb at *
    generalize wx1.heap.size = bb at HCO
    refine hK.out _ _ k0Vb31 (fun hHeld => ?_)
    clear hK K
    try simp only [q1,q2,q3,q4,q5]
    refine wpAnyH_ready (rs := [1, 5]) (by kernel_rfl) (by simp) ?_
    refine AllReadyH.cons (o := ⟨some 125, _, _, _, _, _⟩) rfl (fun K hK => ?_) (AllReadyH.cons (o := ⟨some 129, _, _, _, _, _⟩) rfl (fun K hK => ?_) AllReadyH.nil)
    ·
     go_simp
     have hsc := HBC.out.size
     replace HBC : Hid (Below w4.heap.size w4 (wx1.alloc (.cells #[] 38))) := Lib.hid (HBC.out.alloc hsc _)
     have HLIT : Hid ((wx1.alloc (.cells #[] 38)).ownsRow w4.heap.size 38 6 (.slice (some ⟨wx1.heap.size, 0, none⟩) 0 0) 0 []) := Lib.hid (owns_lit0 rfl hsc)
     have hgl : w4.heap.size ≤ wx1.heap.size := hsc
     have hgne : gb ≠ wx1.heap.size := by omega
     replace HCO : Hid (Cells (wx1.alloc (.cells #[] 38)) bb (some ⟨gb, 0, none⟩) 1 1 6 (odV (o.at ct))) := Lib.hid (((Touch.refl (fun _ => False) _).alloc _).cells HCO.out (fun _ _ h => h))
     have hln : wx1.heap.size < (wx1.alloc (.cells #[] 38)).heap.size := by simp
     generalize (wx1.alloc (.cells #[] 38)) = wx2 at *
     generalize wx1.heap.size = gl at *
     refine hK.out _ _ k0Vb31 (fun hHeld => ?_)
     clear hK K
     try simp only [q1,q2,q3,q4,q5]
     refine wpAnyH_ready (rs := [5]) (by kernel_rfl) (by simp) ?_
     refine AllReadyH.cons (o := ⟨some 129, _, _, _, _, _⟩) rfl (fun K hK => ?_) AllReadyH.nil
     have kx := bkeep HBC.out l4 hx4
     go_simp
     refine hK.out _ _ k0Vb31 (fun hHeld => ?_)
     clear hK K
     try simp only [q1,q2,q3,q4,q5]
     refine wpAnyH_ready (rs := [6]) (by kernel_rfl) (by simp) ?_
     refine AllReadyH.cons (o := ⟨some 130, _, _, _, _, _⟩) rfl (fun K hK => ?_) AllReadyH.nil
     have hsc := HBC.out.size
     have hcl := cells_keep HCL.out HBC.out (Nat.le_refl _)
     refine step_append_cells rfl (.tmp 125) (.tmp 129) 57 rfl w4.heap.size 38 i0 (.agg #[.int .i64 0, .string ⟨#[]⟩, .bool false, .int .i64 0, .int .i64 0, .int .i64 0]) 6 56 Tryz.underlying57 hi0 hz0 hz1 hz2 rfl (by decide) (.slice (some ⟨gl, 0, none⟩) 0 0) 0 [] rfl HLIT.out w4.heap.size A1 L1.length c1 (flatO L1) rfl hcl (flatO_one _) (by unfold maxLen; omega) (by omega) hsc ?_
     intro v5 wx3 hown5 ht5 hb5
     rw [Nat.zero_add, List.nil_append] at hown5
     replace HBC := Lib.hid (HBC.out.trans (ht5.below hsc (by intro k hk; simp [Value.ownBlock] at hk; omega)))
     have HO5 := Lib.hid hown5
     replace HCO := Lib.hid (ht5.cells HCO.out (by intro a ha hh; injection ha with ha; subst ha; simp [Value.ownBlock] at hh; omega))
     clear hown5 ht5 hb5 hcl
     refine hK.out _ _ k0Vb31 (fun hHeld => ?_)
     clear hK K
     try simp only [q1,q2,q3,q4,q5]
     refine wpAnyH_ready (rs := [9]) (by kernel_rfl) (by simp) ?_
     refine AllReadyH.cons (o := ⟨some 133, _, _, _, _, _⟩) rfl (fun K hK => ?_) AllReadyH.nil
     have hsc := HBC.out.size
     have hco := HCO.out
     refine step_append_cells rfl (.tmp 130) (.tmp 132) 57 rfl w4.heap.size 38 i0 (.agg #[.int .i64 0, .string ⟨#[]⟩, .bool false, .int .i64 0, .int .i64 0, .int .i64 0]) 6 56 Tryz.underlying57 hi0 hz0 hz1 hz2 rfl (by decide) v5 L1.length (flatO L1) rfl HO5.out bb (some ⟨gb, 0, none⟩) 1 1 (odV (o.at ct)) rfl hco (od_one _) (by unfold maxLen; omega) (by omega) hsc ?_
     intro v6 wx4 hown6 ht6 hb6
     replace HBC := Lib.hid (HBC.out.trans (ht6.below hsc (fun k hk => (HO5.out.lt k hk).1)))
     have hfl : flatO L1 ++ odV (o.at ct) = flatO (L1 ++ [o.at ct]) := by rw [flatO_app]; simp [flatO]
     rw [hfl] at hown6
     have HO6 := Lib.hid hown6
     clear hown6 ht6 hb6 hco hfl
     refine hK.out _ _ k0Vb31 (fun hHeld => ?_)
     clear hK K
     try simp only [q1,q2,q3,q4,q5]
     refine tkY 10 (some 134) ?v10n_609 rfl ?y10n_609 ?r10n_609
     case y10n_609 => exact tY
     case r10n_609 =>
     try simp only [q1,q2,q3,q4,q5]
     refine tkY 11 (some 135) ?v11n_612 rfl ?y11n_612 ?r11n_612
     case y11n_612 => exact tY
     case r11n_612 =>
     try simp only [q1,q2,q3,q4,q5]
     refine wpAnyH_ready (rs := [12]) (by kernel_rfl) (by simp) ?_
     refine AllReadyH.cons (o := ⟨none, _, _, _, _, _⟩) rfl (fun K hK => ?_) AllReadyH.nil
     have kx := bkeep HBC.out l4 hx4
     have fx := (HB4.out.blk.below HBC.out hx4).free 0
     obtain ⟨A6, c6, hv6, _, _, _⟩ := own_slice HO6.out
     subst hv6
     go_simp
     refine hK.out _ _ k0Vb31 (fun hHeld => ?_)
     clear hK K
     try simp only [q1,q2,q3,q4,q5]
     refine wpAnyH_done (by kernel_rfl) ?_ _
     go_wp2_with fail
     obtain ⟨hR6, hT6, hN6⟩ := HB4.out.setrow HBC.out HO6.out (by simp)
     have hp4 := hT6.cell p4 hxD
     generalize wx4.setCell ⟨x, 0, none⟩ (.slice A6 (L1.length + 1) c6) = W6 at *
     go_region
     go_wp2_with fail
     have hdr : Touch (fun _ => False) W6 W6.drew := Touch.of_drew _ _
     refine bodyPost_ret (v := .tuple #[tv, .int .i64 ct, .int .i64 0]) (by simp [results, Tryz.results49, go_sem, *]) rfl ⟨Tl, ct, 0, L1 ++ [o.at ct], o.id, _, tv, rfl, ?_, hR6.keep hdr (fun _ _ h => h), own_baseO (hdr.own (hT6.own HO4.out (fun g hg e => HAP.out g hg (.inl e))) (fun _ _ h => h)) (by omega), fun k hk hf => ?_, (HT4.out.trans hT6 (fun n hn h => .inl h)).trans hdr (fun _ _ h => h.elim), fun k hk => ?_⟩
     ·
      have hpp : Places o L Tl (o.at ct) L1 := by have := HPL.out [] _ _ (.done _ _ (.inr HNM.out)); simpa using this
      have := PlacedR.ok (last := last) HOK.out (by omega) (by omega) Tl (o.at ct) L1 hpp hTl2
      rw [show laid (o.at ct) L1 = L1 ++ [o.at ct] from if_pos hz] at this
      exact this
     ·
      rcases hf with e | hf
      · exact HAP.out k hk (.inl e)
      ·
       have h1 := hN6 k hf
       have h2 := (HO4.out.lt k hk).2
       omega
     ·
      rcases hk with e | hk
      · exact .inl (.inl e)
      ·
       have h1 := hN6 k hk
       exact .inr (by omega)
    ·
     have kx := bkeep HBC.out l4 hx4
     go_simp
     refine hK.out _ _ k0Vb31 (fun hHeld => ?_)
     clear hK K
     try simp only [q1,q2,q3,q4,q5]
     refine wpAnyH_ready (rs := [1]) (by kernel_rfl) (by simp) ?_
     refine AllReadyH.cons (o := ⟨some 125, _, _, _, _, _⟩) rfl (fun K hK => ?_) AllReadyH.nil
     go_simp
     have hsc := HBC.out.size
     replace HBC : Hid (Below w4.heap.size w4 (wx1.alloc (.cells #[] 38))) := Lib.hid (HBC.out.alloc hsc _)
     have HLIT : Hid ((wx1.alloc (.cells #[] 38)).ownsRow w4.heap.size 38 6 (.slice (some ⟨wx1.heap.size, 0, none⟩) 0 0) 0 []) := Lib.hid (owns_lit0 rfl hsc)
     have hgl : w4.heap.size ≤ wx1.heap.size := hsc
     have hgne : gb ≠ wx1.heap.size := by omega
     replace HCO : Hid (Cells (wx1.alloc (.cells #[] 38)) bb (some ⟨gb, 0, none⟩) 1 1 6 (odV (o.at ct))) := Lib.hid (((Touch.refl (fun _ => False) _).alloc _).cells HCO.out (fun _ _ h => h))
     have hln : wx1.heap.size < (wx1.alloc (.cells #[] 38)).heap.size := by simp
     generalize (wx1.alloc (.cells #[] 38)) = wx2 at *
     generalize wx1.heap.size = gl at *
     refine hK.out _ _ k0Vb31 (fun hHeld => ?_)
     clear hK K
     try simp only [q1,q2,q3,q4,q5]
     refine wpAnyH_ready (rs := [6]) (by kernel_rfl) (by simp) ?_
     refine AllReadyH.cons (o := ⟨some 130, _, _, _, _, _⟩) rfl (fun K hK => ?_) AllReadyH.nil
     have hsc := HBC.out.size
     have hcl := cells_keep HCL.out HBC.out (Nat.le_refl _)
     refine step_append_cells rfl (.tmp 125) (.tmp 129) 57 rfl w4.heap.size 38 i0 (.agg #[.int .i64 0, .string ⟨#[]⟩, .bool false, .int .i64 0, .int .i64 0, .int .i64 0]) 6 56 Tryz.underlying57 hi0 hz0 hz1 hz2 rfl (by decide) (.slice (some ⟨gl, 0, none⟩) 0 0) 0 [] rfl HLIT.out w4.heap.size A1 L1.length c1 (flatO L1) rfl hcl (flatO_one _) (by unfold maxLen; omega) (by omega) hsc ?_
     intro v5 wx3 hown5 ht5 hb5
     rw [Nat.zero_add, List.nil_append] at hown5
     replace HBC := Lib.hid (HBC.out.trans (ht5.below hsc (by intro k hk; simp [Value.ownBlock] at hk; omega)))
     have HO5 := Lib.hid hown5
     replace HCO := Lib.hid (ht5.cells HCO.out (by intro a ha hh; injection ha with ha; subst ha; simp [Value.ownBlock] at hh; omega))
     clear hown5 ht5 hb5 hcl
     refine hK.out _ _ k0Vb31 (fun hHeld => ?_)
     clear hK K
     try simp only [q1,q2,q3,q4,q5]
     refine wpAnyH_ready (rs := [9]) (by kernel_rfl) (by simp) ?_
     refine AllReadyH.cons (o := ⟨some 133, _, _, _, _, _⟩) rfl (fun K hK => ?_) AllReadyH.nil
     have hsc := HBC.out.size
     have hco := HCO.out
     refine step_append_cells rfl (.tmp 130) (.tmp 132) 57 rfl w4.heap.size 38 i0 (.agg #[.int .i64 0, .string ⟨#[]⟩, .bool false, .int .i64 0, .int .i64 0, .int .i64 0]) 6 56 Tryz.underlying57 hi0 hz0 hz1 hz2 rfl (by decide) v5 L1.length (flatO L1) rfl HO5.out bb (some ⟨gb, 0, none⟩) 1 1 (odV (o.at ct)) rfl hco (od_one _) (by unfold maxLen; omega) (by omega) hsc ?_
     intro v6 wx4 hown6 ht6 hb6
     replace HBC := Lib.hid (HBC.out.trans (ht6.below hsc (fun k hk => (HO5.out.lt k hk).1)))
     have hfl : flatO L1 ++ odV (o.at ct) = flatO (L1 ++ [o.at ct]) := by rw [flatO_app]; simp [flatO]
     rw [hfl] at hown6
     have HO6 := Lib.hid hown6
     clear hown6 ht6 hb6 hco hfl
     refine hK.out _ _ k0Vb31 (fun hHeld => ?_)
     clear hK K
     try simp only [q1,q2,q3,q4,q5]
     refine tkY 10 (some 134) ?v10n_695 rfl ?y10n_695 ?r10n_695
     case y10n_695 => exact tY
     case r10n_695 =>
     try simp only [q1,q2,q3,q4,q5]
     refine tkY 11 (some 135) ?v11n_698 rfl ?y11n_698 ?r11n_698
     case y11n_698 => exact tY
     case r11n_698 =>
     try simp only [q1,q2,q3,q4,q5]
     refine wpAnyH_ready (rs := [12]) (by kernel_rfl) (by simp) ?_
     refine AllReadyH.cons (o := ⟨none, _, _, _, _, _⟩) rfl (fun K hK => ?_) AllReadyH.nil
     have kx := bkeep HBC.out l4 hx4
     have fx := (HB4.out.blk.below HBC.out hx4).free 0
     obtain ⟨A6, c6, hv6, _, _, _⟩ := own_slice HO6.out
     subst hv6
     go_simp
     refine hK.out _ _ k0Vb31 (fun hHeld => ?_)
     clear hK K
     try simp only [q1,q2,q3,q4,q5]
     refine wpAnyH_done (by kernel_rfl) ?_ _
     go_wp2_with fail
     obtain ⟨hR6, hT6, hN6⟩ := HB4.out.setrow HBC.out HO6.out (by simp)
     have hp4 := hT6.cell p4 hxD
     generalize wx4.setCell ⟨x, 0, none⟩ (.slice A6 (L1.length + 1) c6) = W6 at *
     go_region
     go_wp2_with fail
     have hdr : Touch (fun _ => False) W6 W6.drew := Touch.of_drew _ _
     refine bodyPost_ret (v := .tuple #[tv, .int .i64 ct, .int .i64 0]) (by simp [results, Tryz.results49, go_sem, *]) rfl ⟨Tl, ct, 0, L1 ++ [o.at ct], o.id, _, tv, rfl, ?_, hR6.keep hdr (fun _ _ h => h), own_baseO (hdr.own (hT6.own HO4.out (fun g hg e => HAP.out g hg (.inl e))) (fun _ _ h => h)) (by omega), fun k hk hf => ?_, (HT4.out.trans hT6 (fun n hn h => .inl h)).trans hdr (fun _ _ h => h.elim), fun k hk => ?_⟩
     ·
      have hpp : Places o L Tl (o.at ct) L1 := by have := HPL.out [] _ _ (.done _ _ (.inr HNM.out)); simpa using this
      have := PlacedR.ok (last := last) HOK.out (by omega) (by omega) Tl (o.at ct) L1 hpp hTl2
      rw [show laid (o.at ct) L1 = L1 ++ [o.at ct] from if_pos hz] at this
      exact this
     ·
      rcases hf with e | hf
      · exact HAP.out k hk (.inl e)
      ·
       have h1 := hN6 k hf
       have h2 := (HO4.out.lt k hk).2
       omega
     ·
      rcases hk with e | hk
      · exact .inl (.inl e)
      ·
       have h1 := hN6 k hk
       exact .inr (by omega)

  case neg =>
   have HNM := Lib.hid hnm
   clear hnm
   go_upto_region 15 with (first
    | (go_at_call 89; go_loud (refine (HBS.out _ HB1.out).mono ?_; rintro e w4 ⟨k, rfl, hbe, hb4⟩; obtain ⟨kn, rfl, hkl, hbst⟩ := best_some hbe HNM.out; have hs4 := hb4.size; have HB4 := Lib.hid (HB1.out.below hb4); have hP4 := HP.out.below hb4 hds; have HP4 := Lib.hid hP4; have HT4 := Lib.hid (HT1.out.trans (Touch.of_below hb4) (fun n h1 h2 => by omega)); have HO4 := Lib.hid ((Touch.of_below hb4).own HO1.out (fun g hg h => by have := (HO1.out.lt g hg).2; omega)); have HBW := Lib.hid hb4; have HBEST := Lib.hid hbst; have p0 := bkeep hb4 d0 hds; have p1 := bkeep hb4 d1 hds; have p2 := bkeep hb4 d2 hds; have p3 := bkeep hb4 d3 hds; have p4 := bkeep hb4 d4 hds; have p5 := bkeep hb4 d5 hds; have pfz := hP4.free; have q5 : (kn : Int) < (L1.length : Int) := (by omega); obtain ⟨gu, cu, hu1, hgB, hgu, hnu, hcu⟩ := own_form HB4.out.row (by omega); subst hu1; have l4 := HB4.out.blk.cell 0; simp only [List.getElem?_toArray, List.getElem?_cons_succ, List.getElem?_cons_zero] at l4; obtain ⟨y, hy⟩ : ∃ y, y = L1[kn] := ⟨_, rfl⟩; obtain ⟨r0, r1, r2, r3, r4, r5⟩ := flatO_at L1 kn hkl; have y0 := (HB4.out.row.cellAt (kn * 6) (ixO0 hkl)).trans r0; have y1 := (HB4.out.row.cellAt (kn * 6 + 1) (ixO hkl 1 (by decide))).trans r1; have y2 := (HB4.out.row.cellAt (kn * 6 + 2) (ixO hkl 2 (by decide))).trans r2; have y3 := (HB4.out.row.cellAt (kn * 6 + 3) (ixO hkl 3 (by decide))).trans r3; have y4 := (HB4.out.row.cellAt (kn * 6 + 4) (ixO hkl 4 (by decide))).trans r4; have y5 := (HB4.out.row.cellAt (kn * 6 + 5) (ixO hkl 5 (by decide))).trans r5; rw [← hy] at y0 y1 y2 y3 y4 y5; have HY := Lib.hid hy; obtain ⟨nn, hnn⟩ : ∃ z, min ct y.ct = z := ⟨_, rfl⟩; clear d0 d1 d2 d3 d4 d5 hb4 hP4 hbe hbst r0 r1 r2 r3 r4 r5 hy))
    | fail)
   have HNN : Hid (nn = mn ct y.ct) := Lib.hid (by rw [← hnn]; exact (mn_min _ _).symm)
   have hyk : OkO y := by rw [HY.out]; exact HK1.out.ok _ (List.getElem_mem hkl)
   have hyc := hyk.ct
   have hn1 : 1 ≤ nn ∧ nn ≤ ct ∧ nn ≤ y.ct := by have h1 := mn_pos (show (1 : Int) ≤ ct by omega) hyc.1; have h2 := mn_le (a := ct) (b := y.ct); rw [HNN.out]; omega
   have hok3 := HOK.out.ct
   have hw1 : IntKind.i64.wrap (ct - nn) = ct - nn := by rw [IntKind.wrap_i64]; omega
   have hw2 : IntKind.i64.wrap (y.ct - nn) = y.ct - nn := by rw [IntKind.wrap_i64]; omega
   have HA0 : Hid (Touch (fun _ => False) w4 ((w4.alloc (.cells #[.int .i64 y.id, .string y.who, .bool y.buy, .int .i64 y.item, .int .i64 y.ct, .int .i64 y.pr] 38)).alloc (.cells #[.string y.who, .string o.who, .int .i64 y.id, .int .i64 o.id, .int .i64 o.item, .int .i64 nn, .int .i64 y.pr, .int .i64 y.pr] 108))) := Lib.hid (((Touch.refl _ _).alloc _).alloc _)
   have c4 : (((w4.alloc (.cells #[.int .i64 y.id, .string y.who, .bool y.buy, .int .i64 y.item, .int .i64 y.ct, .int .i64 y.pr] 38)).alloc (.cells #[.string y.who, .string o.who, .int .i64 y.id, .int .i64 o.id, .int .i64 o.item, .int .i64 nn, .int .i64 y.pr, .int .i64 y.pr] 108))).cell? ⟨w4.heap.size, 4, none⟩ = some (.int .i64 y.ct) := by exact tC
   have hTC : Whl (((w4.alloc (.cells #[.int .i64 y.id, .string y.who, .bool y.buy, .int .i64 y.item, .int .i64 y.ct, .int .i64 y.pr] 38)).alloc (.cells #[.string y.who, .string o.who, .int .i64 y.id, .int .i64 o.id, .int .i64 o.item, .int .i64 nn, .int .i64 y.pr, .int .i64 y.pr] 108))) (w4.heap.size + 1) 108 #[.string y.who, .string o.who, .int .i64 y.id, .int .i64 o.id, .int .i64 o.item, .int .i64 nn, .int .i64 y.pr, .int .i64 y.pr] := Whl.new (by simp)
   have hsz : w4.heap.size + 1 < (((w4.alloc (.cells #[.int .i64 y.id, .string y.who, .bool y.buy, .int .i64 y.item, .int .i64 y.ct, .int .i64 y.pr] 38)).alloc (.cells #[.string y.who, .string o.who, .int .i64 y.id, .int .i64 o.id, .int .i64 o.item, .int .i64 nn, .int .i64 y.pr, .int .i64 y.pr] 108))).heap.size := by simp
   have p4 := HA0.out.cell p4 (fun h => h)
   have pfz := fun k => HA0.out.frozen HP4.out.low (pfz k) (fun h => h)
   have l4 := HA0.out.cell l4 (fun h => h)
   have y4 := HA0.out.cell y4 (fun h => h)
   generalize ((w4.alloc (.cells #[.int .i64 y.id, .string y.who, .bool y.buy, .int .i64 y.item, .int .i64 y.ct, .int .i64 y.pr] 38)).alloc (.cells #[.string y.who, .string o.who, .int .i64 y.id, .int .i64 o.id, .int .i64 o.item, .int .i64 nn, .int .i64 y.pr, .int .i64 y.pr] 108)) = wA at *
   have t0 := hTC.cell 0
   have t1 := hTC.cell 1
   have t2 := hTC.cell 2
   have t3 := hTC.cell 3
   have t4 := hTC.cell 4
   have t5 := hTC.cell 5
   have t6 := hTC.cell 6
   have t7 := hTC.cell 7
   simp only [List.getElem?_toArray, List.getElem?_cons_succ, List.getElem?_cons_zero] at t0 t1 t2 t3 t4 t5 t6 t7
   obtain ⟨i0, hi0, hz0, hz1, hz2⟩ := info_parts Tryz.infoTradeR
   have HOA := Lib.hid (HA0.out.own HO4.out (fun _ _ h => h))
   clear y0 y1 y2 y3 y5 hnn hyk p0 p1 p2 p3 p5
   go_upto_region 17 with (first
    | (at_builtin; refine wpList_append_touch rfl (.tmp 89) (.tmp 91) 104 rfl (w.heap.size + 1) 108 i0 (.agg #[.string ⟨#[]⟩, .string ⟨#[]⟩, .int .i64 0, .int .i64 0, .int .i64 0, .int .i64 0, .int .i64 0, .int .i64 0]) 8 80 Tryz.underlying104 hi0 hz0 hz1 hz2 rfl (by decide) tv Tl.length (flatT Tl) rfl (((Touch.refl (fun _ => False) _).alloc _).own HOA.out (fun _ _ h => h)) _ (some ⟨wA.heap.size, 0, none⟩) 1 1 (tdV ⟨y.who, o.who, y.id, o.id, o.item, nn, y.pr, y.pr⟩) rfl (td_cells ⟨y.who, o.who, y.id, o.id, o.item, nn, y.pr, y.pr⟩) (td_one _) (by unfold maxLen; omega) (by omega) (by simp; omega) ?_; intro v5 w5 hown5 ht5 hb5; have htt : Touch (fun k => tv.ownBlock = some k) wA w5 := ((Touch.refl _ wA).alloc _).trans ht5 (fun _ _ h => h); have hs5 := htt.size; have p4 := htt.cell p4 (fun h => by have := (HO4.out.lt _ h).1; omega); have pfz := fun k => htt.frozen (by omega) (pfz k) (fun h => by have := (HO4.out.lt _ h).1; omega); have l4 := htt.cell l4 (fun h => HAP.out _ h (.inl rfl)); have y4 := htt.cell y4 (fun h => HAP.out _ h (.inr rfl)); have c4 := htt.cell c4 (fun h => by have := (HO4.out.lt _ h).2; omega); have HTT := Lib.hid htt; have HR5 := Lib.hid ((HB4.out.keep HA0.out (fun _ _ h => h)).keep htt (fun k hk h => HAP.out k h hk)); have HP5 := Lib.hid ((htt.block w.heap.size (by omega) (fun h => by have := (HO4.out.lt _ h).1; omega)).trans ((HA0.out.block w.heap.size HP4.out.low (fun h => h)).trans HP4.out)); have HO5 := Lib.hid hown5; have HB5o := Lib.hid hb5; have hal : wA.heap.size < (wA.alloc (.cells #[.string y.who, .string o.who, .int .i64 y.id, .int .i64 o.id, .int .i64 o.item, .int .i64 nn, .int .i64 y.pr, .int .i64 y.pr] 108)).heap.size := (by simp); have hs5b := ht5.size; clear hown5 ht5 hb5 htt t0 t1 t2 t3 t4 t5 t6 t7)
    | fail)
   have hgD : gu ≠ w.heap.size := fun e => HND.out (.inr (by rw [← e]; rfl))
   have hwD : w4.heap.size ≠ w.heap.size := by omega
   have hT6 : Touch (fun k => k = w.heap.size) w5 (w5.setCell ⟨w.heap.size, 4, none⟩ (.int .i64 (ct - nn))) := (Touch.refl _ _).set (fun _ => rfl)
   have HR6 := Lib.hid (HR5.out.keep hT6 (fun k hk h => HND.out (h ▸ hk)))
   have HP6 : Hid (Whl (w5.setCell ⟨w.heap.size, 4, none⟩ (.int .i64 (ct - nn))) w.heap.size 38 #[.int .i64 o.id, .string o.who, .bool false, .int .i64 o.item, .int .i64 (ct - nn), .int .i64 o.pr]) := Lib.hid (Whl.set HP5.out 4 _)
   have l4 := hT6.cell l4 (fun e => hxD e.symm)
   have y4 := hT6.cell y4 hgD
   have c4 := hT6.cell c4 hwD
   have yfz := fun k => HR6.out.row.frozenAt k
   have HT6 := Lib.hid hT6
   have hs6 := hT6.size
   clear p4 pfz hT6
   generalize w5.setCell ⟨w.heap.size, 4, none⟩ (.int .i64 (ct - nn)) = w6 at *
   go_still_tail 11, (by kernel_rfl)
   change wpList _ _ _ _ _ w6.drew
   have hdr : Touch (fun _ => False) w6 w6.drew := Touch.of_drew _ _
   replace y4 := hdr.cell y4 (fun h => h)
   replace l4 := hdr.cell l4 (fun h => h)
   have yfz : ∀ k, w6.drew.frozen? ⟨gu, k, none⟩ = false := fun k => hdr.frozen (HR6.out.row.lt gu rfl).2 (yfz k) (fun h => h)
   have HRD := Lib.hid (HR6.out.keep hdr (fun _ _ h => h))
   have HDR := Lib.hid hdr
   clear hdr c4
   generalize w6.drew = w7 at *
   go_upto_region 18 with fail
   have HR8 := HRD.out.setct hkl nn
   rw [← HY.out] at HR8
   have HR8 := Lib.hid HR8
   have hT8 : Touch (fun k => k = gu) w7 (w7.setCell ⟨gu, kn * 6 + 4, none⟩ (.int .i64 (y.ct - nn))) := (Touch.refl _ _).set (fun _ => rfl)
   have l4 := hT8.cell l4 (fun e => HR6.out.apart gu rfl e.symm)
   have y4 : (w7.setCell ⟨gu, kn * 6 + 4, none⟩ (.int .i64 (y.ct - nn))).cell? ⟨gu, kn * 6 + 4, none⟩ = some (.int .i64 (y.ct - nn)) := World.cell?_setCell_same _ _ _ y4
   have hs8 := hT8.size
   have HP7 : Hid (Whl w7 w.heap.size 38 #[.int .i64 o.id, .string o.who, .bool false, .int .i64 o.item, .int .i64 (ct - nn), .int .i64 o.pr]) := Lib.hid ((HDR.out.block w.heap.size HP6.out.low (fun h => h)).trans HP6.out)
   have HP8 : Hid (Whl (w7.setCell ⟨gu, kn * 6 + 4, none⟩ (.int .i64 (y.ct - nn))) w.heap.size 38 #[.int .i64 o.id, .string o.who, .bool false, .int .i64 o.item, .int .i64 (ct - nn), .int .i64 o.pr]) := Lib.hid (Whl.far HP7.out (fun e => hgD e.symm))
   have HT67 : Hid (Touch (fun k => k = w.heap.size ∨ k = gu) w5 (w7.setCell ⟨gu, kn * 6 + 4, none⟩ (.int .i64 (y.ct - nn)))) := Lib.hid (((HT6.out.mono (fun _ h => .inl h)).trans HDR.out (fun _ _ h => h.elim)).trans hT8 (fun _ _ h => .inr h))
   have hs7 := HDR.out.size
   clear hT8 yfz
   generalize w7.setCell ⟨gu, kn * 6 + 4, none⟩ (.int .i64 (y.ct - nn)) = w8 at *
   have HW48 : Hid (Touch (Fx x u) w w8) := Lib.hid (((HT4.out.trans HA0.out (fun _ _ h => h.elim)).trans HTT.out (fun n hn h => by have := (HO4.out.lt _ h).1; omega)).trans HT67.out (fun n hn h => by
    rcases h with h | h
    · omega
    ·
     rcases HF1.out n (.inr (by rw [h]; rfl)) with h2 | h2
     · exact h2
     · omega))
   have htp : tradeP (o.at ct) y nn = ⟨y.who, o.who, y.id, o.id, o.item, nn, y.pr, y.pr⟩ := by unfold tradeP; rw [show (o.at ct).buy = false from HBUY.out]; rfl
   have hmt : Best (o.at ct) y L1 := by rw [HY.out]; exact HBEST.out
   have hpr := placeRound HPL.out hz hmt HNN.out
   rw [htp] at hpr
   have HPR := Lib.hid hpr
   clear htp hmt hpr
   have hfl : flatT Tl ++ tdV (⟨y.who, o.who, y.id, o.id, o.item, nn, y.pr, y.pr⟩ : Td) = flatT (Tl ++ [(⟨y.who, o.who, y.id, o.id, o.item, nn, y.pr, y.pr⟩ : Td)]) := by rw [flatT_app]; simp [flatT]
   have ho5 := HO5.out
   rw [hfl] at ho5
   have hO8 : w8.ownsRow (w.heap.size + 1) 108 8 v5 (Tl ++ [(⟨y.who, o.who, y.id, o.id, o.item, nn, y.pr, y.pr⟩ : Td)]).length (flatT (Tl ++ [(⟨y.who, o.who, y.id, o.id, o.item, nn, y.pr, y.pr⟩ : Td)])) := by
    rw [List.length_append]
    refine HT67.out.own ho5 (fun g hg h => ?_)
    rcases HB5o.out with e | e
    ·
     rw [e] at hg
     rcases h with h | h
     · have := (HO4.out.lt _ hg).1; omega
     · exact HAP.out _ hg (.inr (by rw [h]; rfl))
    ·
     rw [e] at hg
     simp at hg
     have := (HR5.out.lows gu (.inr rfl)).2
     omega
   have hap8 : ∀ k, v5.ownBlock = some k → k ≠ x ∧ k ≠ gu ∧ w.heap.size + 1 ≤ k ∧ k < w8.heap.size := fun k hk => by
    have hlt := hO8.lt k hk
    rcases HB5o.out with e | e
    ·
     rw [e] at hk
     exact ⟨fun e2 => HAP.out _ hk (.inl e2), fun e2 => HAP.out _ hk (.inr (by rw [e2]; rfl)), hlt.1, hlt.2⟩
    ·
     rw [e] at hk
     simp at hk
     have h1 := (HB4.out.lows gu (.inr rfl)).2
     have h2 := (HB4.out.lows x (.inl rfl)).2
     exact ⟨by omega, by omega, hlt.1, hlt.2⟩
   have HO8 := Lib.hid hO8
   have HAP8 := Lib.hid hap8
   have hme : ((wr.cell? ⟨w.heap.size, 4, none⟩).map intOf).getD 0 = ct := by rw [HP.out.cell 4]; rfl
   have HME := Lib.hid hme
   clear ho5 hfl hO8 hap8 hme
   by_cases hyn : y.ct = nn
   case pos =>
    have q9 : y.ct - nn = 0 := by omega
    rw [q9] at y4
    have hL2 : takeN y nn L1 = (L1.set kn (less y nn)).eraseIdx kn := by
     rw [List.eraseIdx_set_eq, HY.out, takeN_idx HK1.out.ids hkl, if_pos (by rw [← HY.out]; exact hyn)]
    have HL2 := Lib.hid hL2
    clear hL2
    go_wp2_with (first
     | (go_at_call 90; go_loud (refine (refOut B x _ (L1.set kn (less y nn)) o.id kn _ HR8.out (by rw [List.length_set]; exact hkl) (by rw [List.length_set]; omega)).mono ?_; rintro e w9 ⟨u9, rfl, hR9, ht9, hf9⟩; rw [← HL2.out] at hR9; have HR9 := Lib.hid hR9; have HT9 := Lib.hid ht9; have HF9 := Lib.hid hf9; have hs9 := ht9.size; clear hR9 ht9 hf9))
     | fail)
    have hbk := HK1.out.takeN (x := y) (by rw [HY.out]; exact List.getElem_mem hkl) (n := nn) (by omega) hn1.2.2
    have hlen2 : (takeN y nn L1).length ≤ L1.length := by rw [HL2.out, List.length_eraseIdx_of_lt (by rw [List.length_set]; exact hkl), List.length_set]; omega
    have hP9 : Whl w9 w.heap.size 38 #[.int .i64 o.id, .string o.who, .bool false, .int .i64 o.item, .int .i64 (ct - nn), .int .i64 o.pr] := (HT9.out.block w.heap.size HP8.out.low hxD).trans HP8.out
    refine ⟨⟨ct - nn, takeN y nn L1, u9, _, v5, rfl, by omega, by omega, hP9, HR9.out, hbk, HT9.out.own HO8.out (fun g hg => (HAP8.out g hg).1), ?_, ?_, ?_, by omega, HW48.out.trans HT9.out (fun n hn h => .inl h), ?_, HPR.out⟩, ?_⟩
    ·
     intro k hk hf
     have h1 := HAP8.out k hk
     rcases hf with hf | hf
     · exact h1.1 hf
     · have h2 := HF9.out k hf; omega
    ·
     intro hf
     rcases hf with hf | hf
     · omega
     · have h2 := HF9.out _ hf; have := HP8.out.low; omega
    · rw [List.length_append]; simp only [List.length_singleton]; omega
    ·
     intro k hk
     rcases hk with hk | hk
     · exact .inl (.inl hk)
     · have h2 := HF9.out k hk; exact .inr (by omega)
    ·
     rw [HME.out, hP9.cell 4]
     show (ct - nn).toNat < ct.toNat
     omega
   case neg =>
    have q9 : ¬ y.ct - nn = 0 := by omega
    have hL2 : takeN y nn L1 = L1.set kn (less y nn) := by
     rw [HY.out, takeN_idx HK1.out.ids hkl, if_neg (by rw [← HY.out]; exact hyn)]
    have hR8 := HR8.out
    rw [← hL2] at hR8
    have hbk := HK1.out.takeN (x := y) (by rw [HY.out]; exact List.getElem_mem hkl) (n := nn) (by omega) hn1.2.2
    have hlen2 : (takeN y nn L1).length ≤ L1.length := by rw [hL2, List.length_set]; omega
    have HR8' := Lib.hid hR8
    have HBK := Lib.hid hbk
    clear hL2 hR8 hbk
    go_wp2_with fail
    refine ⟨⟨ct - nn, takeN y nn L1, _, _, v5, rfl, by omega, by omega, HP8.out, HR8'.out, HBK.out, HO8.out, ?_, ?_, ?_, by omega, HW48.out, ?_, HPR.out⟩, ?_⟩
    ·
     intro k hk hf
     have h1 := HAP8.out k hk
     rcases hf with hf | hf
     · exact h1.1 hf
     ·
      have hf : gu = k := by simpa [Value.ownBlock] using hf
      exact h1.2.1 hf.symm
    ·
     intro hf
     rcases hf with hf | hf
     · omega
     ·
      have hf : gu = w.heap.size := by simpa [Value.ownBlock] using hf
      exact hgD hf
    · rw [List.length_append]; simp only [List.length_singleton]; omega
    ·
     intro k hk
     exact HF1.out k hk
    ·
     rw [HME.out, HP8.out.cell 4]
     show (ct - nn).toNat < ct.toNat
     omega
end Go.Proofs.YtdlbiobjnohfbaaGreat
