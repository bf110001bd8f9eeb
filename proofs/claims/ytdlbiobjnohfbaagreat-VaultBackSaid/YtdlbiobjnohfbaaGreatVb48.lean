/- vault's law: played. -/
import Derived.Test.YtdlbiobjnohfbaaGreatVb47
namespace Go.Proofs.YtdlbiobjnohfbaaGreat
open Go.RowKit Go.ChangeMaps Go.MapKept
open List (setIfInBounds_toArray set_cons_zero set_cons_succ)
set_option linter.unusedVariables false
set_option linter.unusedSimpArgs false
theorem je_new {w w1 w2 : World} (hv : VtAt w1 w.heap.size (.map none) (fun _ => .slice none 0 0) [] [] 0 0) (hb1 : Below w.heap.size w w1) (hr : RvH w2 w1.heap.size (w1.heap.size + 1) w1.heap.size (.slice none 0 0) (.slice none 0 0) [] [] 0 1) (hb2 : Below w1.heap.size w1 w2) :
  JE w w2 w.heap.size (w1.heap.size + 1) w1.heap.size [] [] 0 [] [] (0 + 1) (fun _ => False) := by
 have hz1 := hb1.size
 have hlow := hv.lows
 refine ⟨w1.heap.size, _, _, 0, _, _, 0, ⟨hv.below hb2, ⟨hb1.trans (hb2.mono hz1), fun k hk => ?_⟩, hr, hz1, fun k hk hn => ?_, Bk.nil, by omega, PmOk.nil, by simp⟩, fun q hq => hq.elim⟩
 ·
  rcases hk with (e | ⟨i, _, e⟩) | e
  · omega
  · cases e
  · cases e
 ·
  have h1 := (hr.lows k hk).1
  have h2 := hlow k hn
  omega
set_option maxHeartbeats 10000000 in
set_option maxRecDepth 10000 in
theorem played (A : Option Addr) (c : Nat) (xs : List Va) (w : World) (hx : Cells w w.heap.size A xs.length c 13 (xs.flatMap vaV)) :
  Calls Tryz.prog 7 #[.slice A xs.length c] w fun e w' => ∃ b d x l L g Nm, e = .returned (.tuple #[.pointer (some ⟨b, 0, none⟩), .pointer (some ⟨d, 0, none⟩), .bool true]) ∧ JE w w' b d x l L g l L (g + 1) (fun _ => False) ∧ NmsA Nm l L ∧ Nm.length ≤ 100 := by
 have HX := Lib.hid hx
 clear hx
 go_enter Tryz.func7, Tryz.ntmps7
 go_wp2_with (first
  | (go_at_call 16; refine (refNew _).mono ?_; rintro e w2 ⟨rfl, hr2, hb2⟩; have HR2 := Lib.hid hr2; have HB2 := Lib.hid hb2; clear hr2 hb2)
  | (go_at_call 15; refine (newVault _).mono ?_; rintro e w1 ⟨rfl, hv1, hb1⟩; have HV1 := Lib.hid hv1; have HB1 := Lib.hid hb1; clear hv1 hb1)
  | fail)
 have hj := je_new HV1.out HB1.out HR2.out HB2.out
 obtain ⟨b, hb⟩ : ∃ b, b = w.heap.size := ⟨_, rfl⟩
 obtain ⟨d, hd⟩ : ∃ d, d = w1.heap.size + 1 := ⟨_, rfl⟩
 rw [← hb, ← hd] at hj
 rw [← hb, ← hd]
 have HJ := Lib.hid hj
 clear hj hb hd HV1 HB1 HR2 HB2
 go_loopw [7, 8, 9, 10, 11, 12, 13] (fun iv v8 v9 v10 v11 v12 v13 wr => ∃ (i : Nat) (l : Pm) (L : List Od) (g : Int) (Nm : List By), i ≤ min xs.length 100 ∧ iv = .int .i64 i ∧ JE w wr b d w1.heap.size l L g l L (g + 1) (fun _ => False) ∧ NmsA Nm l L ∧ Nm.length ≤ i) (fun iv _ _ _ _ _ _ _ => min xs.length 100 - (intOf iv).toNat)
 case atStart => exact ⟨0, [], [], 0, [], Nat.zero_le _, rfl, HJ.out, NmsA.nil, by simp⟩
 case round =>
  clear HJ
  obtain ⟨i, l, L, g, Nm, hil, rfl, hj, hnm, hnl⟩ := hrel
  obtain ⟨x, hxx⟩ : ∃ x, x = w1.heap.size := ⟨_, rfl⟩
  rw [← hxx] at hj
  have hBw := hj.bel
  have hsw := hBw.size
  have HJ := Lib.hid hj
  have HNM := Lib.hid hnm
  by_cases hlt : i < min xs.length 100
  ·
   have q3 : (i : Int) < (xs.length : Int) := by omega
   have q4 : (i : Int) < 100 := by omega
   obtain ⟨qb, qo, rfl, hqb, hcell⟩ := va_cell HX.out (show i < xs.length by omega)
   obtain ⟨a, ha⟩ : ∃ a, a = xs[i] := ⟨_, rfl⟩
   rw [← ha] at hcell
   have c0 := bkeep hBw (hcell 0 _ (by decide) rfl) hqb
   have c1 := bkeep hBw (hcell 1 _ (by decide) rfl) hqb
   have c2 := bkeep hBw (hcell 2 _ (by decide) rfl) hqb
   have c3 := bkeep hBw (hcell 3 _ (by decide) rfl) hqb
   have c4 := bkeep hBw (hcell 4 _ (by decide) rfl) hqb
   have c5 := bkeep hBw (hcell 5 _ (by decide) rfl) hqb
   have c6 := bkeep hBw (hcell 6 _ (by decide) rfl) hqb
   have c7 := bkeep hBw (hcell 7 _ (by decide) rfl) hqb
   have c8 := bkeep hBw (hcell 8 _ (by decide) rfl) hqb
   have c9 := bkeep hBw (hcell 9 _ (by decide) rfl) hqb
   have c10 := bkeep hBw (hcell 10 _ (by decide) rfl) hqb
   have c11 := bkeep hBw (hcell 11 _ (by decide) rfl) hqb
   have c12 := bkeep hBw (hcell 12 _ (by decide) rfl) hqb
   simp only [Nat.add_zero] at c0
   have hll : l.length ≤ 100 := by have := hnm.len hj.oks.1.1; omega
   obtain ⟨hok, ⟨lastk, hbk⟩, _, _, hg0, hg1, h32⟩ := hj.oks
   have HBK := Lib.hid hbk
   clear hj hnm hcell ha hBw hok hbk
   obtain ⟨ab, hab⟩ : ∃ y, y = wr.heap.size := ⟨_, rfl⟩
   obtain ⟨W4, hW4⟩ : ∃ y, y = wr.alloc (.cells #[.int .i64 a.kind, .int .i64 a.n, .string a.who, .int .i64 a.i.1, .int .i64 a.i.2.1, .int .i64 a.i.2.2.1, .int .i64 a.i.2.2.2, .int .i64 a.o.id, .string a.o.who, .bool a.o.buy, .int .i64 a.o.item, .int .i64 a.o.ct, .int .i64 a.o.pr] 40) := ⟨_, rfl⟩
   have hs4 : W4.heap.size = wr.heap.size + 1 := by rw [hW4]; simp
   have hB4 : Below wr.heap.size wr W4 := by rw [hW4]; exact (Below.refl _ _).alloc (Nat.le_refl _) _
   have HA4 : Hid (Whl W4 ab 40 #[.int .i64 a.kind, .int .i64 a.n, .string a.who, .int .i64 a.i.1, .int .i64 a.i.2.1, .int .i64 a.i.2.2.1, .int .i64 a.i.2.2.2, .int .i64 a.o.id, .string a.o.who, .bool a.o.buy, .int .i64 a.o.item, .int .i64 a.o.ct, .int .i64 a.o.pr]) := Lib.hid (by rw [hW4]; exact Whl.new hab)
   have HJ4 : Hid (JE w W4 b d x l L g l L (g + 1) (fun q => q = ab)) := Lib.hid (HJ.out.belowD hB4 (fun q hq => .inr (by omega)))
   clear hB4
   go_upto_block 2 with fail
   rw [← hW4, ← hab]
   clear hW4 hab HJ
   have d0 : W4.cell? ⟨ab, 0, none⟩ = some (.int .i64 a.kind) := HA4.out.cell 0
   have d1 : W4.cell? ⟨ab, 1, none⟩ = some (.int .i64 a.n) := HA4.out.cell 1
   have d2 : W4.cell? ⟨ab, 2, none⟩ = some (.string a.who) := HA4.out.cell 2
   have d3 : W4.cell? ⟨ab, 3, none⟩ = some (.int .i64 a.i.1) := HA4.out.cell 3
   have d4 : W4.cell? ⟨ab, 4, none⟩ = some (.int .i64 a.i.2.1) := HA4.out.cell 4
   have d5 : W4.cell? ⟨ab, 5, none⟩ = some (.int .i64 a.i.2.2.1) := HA4.out.cell 5
   have d6 : W4.cell? ⟨ab, 6, none⟩ = some (.int .i64 a.i.2.2.2) := HA4.out.cell 6
   have d7 : W4.cell? ⟨ab, 7, none⟩ = some (.int .i64 a.o.id) := HA4.out.cell 7
   have d8 : W4.cell? ⟨ab, 8, none⟩ = some (.string a.o.who) := HA4.out.cell 8
   have d9 : W4.cell? ⟨ab, 9, none⟩ = some (.bool a.o.buy) := HA4.out.cell 9
   have d10 : W4.cell? ⟨ab, 10, none⟩ = some (.int .i64 a.o.item) := HA4.out.cell 10
   have d11 : W4.cell? ⟨ab, 11, none⟩ = some (.int .i64 a.o.ct) := HA4.out.cell 11
   have d12 : W4.cell? ⟨ab, 12, none⟩ = some (.int .i64 a.o.pr) := HA4.out.cell 12
   clear c0 c1 c2 c3 c4 c5 c6 c7 c8 c9 c10 c11 c12
   go_cut [9, 33] (fun okv kd wq => ∃ (l5 : Pm) (L5 : List Od) (g5 : Int) (N5 : List By), okv = .bool true ∧ JE w wq b d x l5 L5 g5 l5 L5 (g5 + 1) (fun q => q = ab) ∧ Whl wq ab 40 #[.int .i64 a.kind, .int .i64 a.n, .string a.who, .int .i64 a.i.1, .int .i64 a.i.2.1, .int .i64 a.i.2.2.1, .int .i64 a.i.2.2.2, .int .i64 a.o.id, .string a.o.who, .bool a.o.buy, .int .i64 a.o.item, .int .i64 a.o.ct, .int .i64 a.o.pr] ∧ NmsA N5 l5 L5 ∧ N5.length ≤ i + 1)
   case first =>
    by_cases k1 : a.kind = 1
    ·
     go_wp2_with fail
     refine wp_region_held_drew (S := (fun W => W.cell? ⟨ab, 2, none⟩ = some (.string a.who) ∧ W.cell? ⟨ab, 3, none⟩ = some (.int .i64 a.i.1) ∧ W.cell? ⟨ab, 4, none⟩ = some (.int .i64 a.i.2.1) ∧ W.cell? ⟨ab, 5, none⟩ = some (.int .i64 a.i.2.2.1) ∧ W.cell? ⟨ab, 6, none⟩ = some (.int .i64 a.i.2.2.2))) (by kernel_rfl) ⟨d2, d3, d4, d5, d6⟩ (fun hHeld => ?_)
     refine tkY 0 (some 36) ?v0p rfl ?y0p ?r0p
     case y0p => exact tY
     case r0p =>
     try simp only [Act.put,setIfInBounds_toArray,set_cons_zero,set_cons_succ]
     refine tkY 1 (some 37) ?v1p rfl ?y1p ?r1p
     case y1p => exact tY
     case r1p =>
     try simp only [Act.put,setIfInBounds_toArray,set_cons_zero,set_cons_succ]
     refine tkY 2 (some 38) ?v2p rfl ?y2p ?r2p
     case y2p => exact tY
     case r2p =>
     try simp only [Act.put,setIfInBounds_toArray,set_cons_zero,set_cons_succ]
     refine tkY 3 (some 39) ?v3p rfl ?y3p ?r3p
     case y3p => exact tY
     case r3p =>
     try simp only [Act.put,setIfInBounds_toArray,set_cons_zero,set_cons_succ]
     refine tkY 4 (some 40) ?v4p rfl ?y4p ?r4p
     case y4p => exact tY
     case r4p =>
     try simp only [Act.put,setIfInBounds_toArray,set_cons_zero,set_cons_succ]
     refine tkY 6 (some 42) ?v6p rfl ?y6p ?r6p
     case y6p => exact tY
     case r6p =>
     try simp only [Act.put,setIfInBounds_toArray,set_cons_zero,set_cons_succ]
     refine tkY 7 (some 43) ?v7p rfl ?y7p ?r7p
     case y7p => exact tY
     case r7p =>
     try simp only [Act.put,setIfInBounds_toArray,set_cons_zero,set_cons_succ]
     refine tkY 8 (some 44) ?v8p rfl ?y8p ?r8p
     case y8p => exact tY
     case r8p =>
     try simp only [Act.put,setIfInBounds_toArray,set_cons_zero,set_cons_succ]
     refine tkY 9 (some 45) ?v9p rfl ?y9p ?r9p
     case y9p => exact tY
     case r9p =>
     try simp only [Act.put,setIfInBounds_toArray,set_cons_zero,set_cons_succ]
     refine tkY 10 (some 46) ?v10p rfl ?y10p ?r10p
     case y10p => exact tY
     case r10p =>
     try simp only [Act.put,setIfInBounds_toArray,set_cons_zero,set_cons_succ]
     refine wpAnyH_ready (rs := [5]) (by kernel_rfl) (by simp) ?_
     refine AllReadyH.cons (o := ⟨some 41, _, _, _, _, _⟩) rfl (fun K hK => ?_) AllReadyH.nil
     go_simp
     refine (jPutC w b d x l l L L g (g + 1) a.who a.i (fun q => q = ab) _ (HJ4.out.below ((Below.refl _ _).drew))).mono ?_
     rintro e w5 ⟨rfl, hj5, hs5⟩
     go_wp2_with fail
     have PX := hs5.whl rfl HA4.out.drew
     refine hK.out _ _ ⟨PX.cell 2, PX.cell 3, PX.cell 4, PX.cell 5, PX.cell 6⟩ (fun hHeld => ?_)
     clear hK K
     try simp only [Act.put,setIfInBounds_toArray,set_cons_zero,set_cons_succ]
     refine wpAnyH_ready (rs := [11]) (by kernel_rfl) (by simp) ?_
     refine AllReadyH.cons (o := ⟨some 47, _, _, _, _, _⟩) rfl (fun K hK => ?_) AllReadyH.nil
     go_simp
     refine (jPutD w b d x (putL l a.who a.i) l L L g (g + 1) a.who a.i (fun q => q = ab) _ hj5 (by omega)).mono ?_
     rintro e w6 ⟨rfl, hj6, hs6⟩
     go_wp2_with fail
     have PX := hs6.whl rfl PX
     refine hK.out _ _ ⟨PX.cell 2, PX.cell 3, PX.cell 4, PX.cell 5, PX.cell 6⟩ (fun hHeld => ?_)
     clear hK K
     try simp only [Act.put,setIfInBounds_toArray,set_cons_zero,set_cons_succ]
     refine tkY 12 (some 48) ?v12p rfl ?y12p ?r12p
     case y12p => exact tY
     case r12p =>
     try simp only [Act.put,setIfInBounds_toArray,set_cons_zero,set_cons_succ]
     refine tkY 13 (some 9) ?v13p rfl ?y13p ?r13p
     case y13p => exact tY
     case r13p =>
     try simp only [Act.put,setIfInBounds_toArray,set_cons_zero,set_cons_succ]
     refine wpAnyH_done (by kernel_rfl) ?_ _
     go_wp2_with fail
     go_meet
     case rel => exact ⟨putL l a.who a.i, L, g, _, rfl, hj6, PX, ⟨putL_nms HNM.out.1 a.who a.i, HNM.out.2⟩, by rw [List.length_cons]; omega⟩
    ·
     by_cases k2 : a.kind = 2
     ·
      go_wp2_with fail
      refine wp_region_held_drew (S := (fun W => W.cell? ⟨ab, 2, none⟩ = some (.string a.who) ∧ W.cell? ⟨ab, 3, none⟩ = some (.int .i64 a.i.1) ∧ W.cell? ⟨ab, 4, none⟩ = some (.int .i64 a.i.2.1) ∧ W.cell? ⟨ab, 5, none⟩ = some (.int .i64 a.i.2.2.1) ∧ W.cell? ⟨ab, 6, none⟩ = some (.int .i64 a.i.2.2.2))) (by kernel_rfl) ⟨d2, d3, d4, d5, d6⟩ (fun hHeld => ?_)
      refine tkY 0 (some 51) ?v0t rfl ?y0t ?r0t
      case y0t => exact tY
      case r0t =>
      try simp only [Act.put,setIfInBounds_toArray,set_cons_zero,set_cons_succ]
      refine tkY 1 (some 52) ?v1t rfl ?y1t ?r1t
      case y1t => exact tY
      case r1t =>
      try simp only [Act.put,setIfInBounds_toArray,set_cons_zero,set_cons_succ]
      refine tkY 2 (some 53) ?v2t rfl ?y2t ?r2t
      case y2t => exact tY
      case r2t =>
      try simp only [Act.put,setIfInBounds_toArray,set_cons_zero,set_cons_succ]
      refine tkY 3 (some 54) ?v3t rfl ?y3t ?r3t
      case y3t => exact tY
      case r3t =>
      try simp only [Act.put,setIfInBounds_toArray,set_cons_zero,set_cons_succ]
      refine tkY 4 (some 55) ?v4t rfl ?y4t ?r4t
      case y4t => exact tY
      case r4t =>
      try simp only [Act.put,setIfInBounds_toArray,set_cons_zero,set_cons_succ]
      refine tkY 6 (some 57) ?v6t rfl ?y6t ?r6t
      case y6t => exact tY
      case r6t =>
      try simp only [Act.put,setIfInBounds_toArray,set_cons_zero,set_cons_succ]
      refine tkY 7 (some 58) ?v7t rfl ?y7t ?r7t
      case y7t => exact tY
      case r7t =>
      try simp only [Act.put,setIfInBounds_toArray,set_cons_zero,set_cons_succ]
      refine tkY 8 (some 59) ?v8t rfl ?y8t ?r8t
      case y8t => exact tY
      case r8t =>
      try simp only [Act.put,setIfInBounds_toArray,set_cons_zero,set_cons_succ]
      refine tkY 9 (some 60) ?v9t rfl ?y9t ?r9t
      case y9t => exact tY
      case r9t =>
      try simp only [Act.put,setIfInBounds_toArray,set_cons_zero,set_cons_succ]
      refine tkY 10 (some 61) ?v10t rfl ?y10t ?r10t
      case y10t => exact tY
      case r10t =>
      try simp only [Act.put,setIfInBounds_toArray,set_cons_zero,set_cons_succ]
      refine wpAnyH_ready (rs := [5]) (by kernel_rfl) (by simp) ?_
      refine AllReadyH.cons (o := ⟨some 56, _, _, _, _, _⟩) rfl (fun K hK => ?_) AllReadyH.nil
      go_simp
      refine (jTakeC w b d x l l L L g (g + 1) a.who a.i (fun q => q = ab) _ (HJ4.out.below ((Below.refl _ _).drew))).mono ?_
      rintro e w5 ⟨rfl, hj5, hs5⟩
      go_wp2_with fail
      have PX := hs5.whl rfl HA4.out.drew
      refine hK.out _ _ ⟨PX.cell 2, PX.cell 3, PX.cell 4, PX.cell 5, PX.cell 6⟩ (fun hHeld => ?_)
      clear hK K
      try simp only [Act.put,setIfInBounds_toArray,set_cons_zero,set_cons_succ]
      refine wpAnyH_ready (rs := [11]) (by kernel_rfl) (by simp) ?_
      refine AllReadyH.cons (o := ⟨some 62, _, _, _, _, _⟩) rfl (fun K hK => ?_) AllReadyH.nil
      go_simp
      refine (jTakeD w b d x (takeL l a.who a.i) l L L g (g + 1) a.who a.i (fun q => q = ab) _ hj5 (by omega)).mono ?_
      rintro e w6 ⟨rfl, hj6, hs6⟩
      go_wp2_with fail
      have PX := hs6.whl rfl PX
      refine hK.out _ _ ⟨PX.cell 2, PX.cell 3, PX.cell 4, PX.cell 5, PX.cell 6⟩ (fun hHeld => ?_)
      clear hK K
      try simp only [Act.put,setIfInBounds_toArray,set_cons_zero,set_cons_succ]
      refine tkY 12 (some 63) ?v12t rfl ?y12t ?r12t
      case y12t => exact tY
      case r12t =>
      try simp only [Act.put,setIfInBounds_toArray,set_cons_zero,set_cons_succ]
      refine tkY 13 (some 9) ?v13t rfl ?y13t ?r13t
      case y13t => exact tY
      case r13t =>
      try simp only [Act.put,setIfInBounds_toArray,set_cons_zero,set_cons_succ]
      refine wpAnyH_done (by kernel_rfl) ?_ _
      go_wp2_with fail
      go_meet
      case rel => exact ⟨takeL l a.who a.i, L, g, _, rfl, hj6, PX, ⟨takeL_nms HNM.out.1 a.who a.i, HNM.out.2⟩, by rw [List.length_cons]; omega⟩
     ·
      by_cases k3 : a.kind = 3
      ·
       skip
       go_wp2_with fail
       refine (jOrdC w b d x l l L L g (g + 1) a.o (fun q => q = ab) _ HJ4.out).mono ?_
       rintro e w5 ⟨n1, c1, l1, L1, g1, rfl, ⟨hj5, hs5⟩, hx1⟩
       have PX := hs5.whl rfl HA4.out
       have e7 : w5.cell? ⟨ab, 7, none⟩ = some (.int .i64 a.o.id) := PX.cell 7
       have e8 : w5.cell? ⟨ab, 8, none⟩ = some (.string a.o.who) := PX.cell 8
       have e9 : w5.cell? ⟨ab, 9, none⟩ = some (.bool a.o.buy) := PX.cell 9
       have e10 : w5.cell? ⟨ab, 10, none⟩ = some (.int .i64 a.o.item) := PX.cell 10
       have e11 : w5.cell? ⟨ab, 11, none⟩ = some (.int .i64 a.o.ct) := PX.cell 11
       have e12 : w5.cell? ⟨ab, 12, none⟩ = some (.int .i64 a.o.pr) := PX.cell 12
       go_wp2_with fail
       refine (jOrdD w b d x l1 l L1 L g1 g a.o Nm (fun q => q = ab) _ hj5 HNM.out.1 (by omega)).mono ?_
       rintro e w6 ⟨n2, c2, l2, L2, g2, rfl, ⟨hj6, hs6⟩, hx2⟩
       obtain ⟨rfl, rfl, rfl, rfl, rfl⟩ := hx1.det HBK.out hx2
       have PX := hs6.whl rfl PX
       go_wp2_with fail
       go_meet
       case rel => exact ⟨l1, L1, g1, _, rfl, hj6, PX, ⟨hx1.nms HNM.out.1, hx1.ap HBK.out HNM.out.2⟩, by rw [List.length_cons]; omega⟩
      ·
       by_cases k4 : a.kind = 4
       ·
        go_wp2_with fail
        refine wp_region_held_drew (S := (fun W => W.cell? ⟨ab, 1, none⟩ = some (.int .i64 a.n) ∧ W.cell? ⟨ab, 2, none⟩ = some (.string a.who))) (by kernel_rfl) ⟨d1, d2⟩ (fun hHeld => ?_)
        refine tkY 0 (some 90) ?v0c rfl ?y0c ?r0c
        case y0c => exact tY
        case r0c =>
        try simp only [Act.put,setIfInBounds_toArray,set_cons_zero,set_cons_succ]
        refine tkY 1 (some 91) ?v1c rfl ?y1c ?r1c
        case y1c => exact tY
        case r1c =>
        try simp only [Act.put,setIfInBounds_toArray,set_cons_zero,set_cons_succ]
        refine tkY 2 (some 92) ?v2c rfl ?y2c ?r2c
        case y2c => exact tY
        case r2c =>
        try simp only [Act.put,setIfInBounds_toArray,set_cons_zero,set_cons_succ]
        refine tkY 3 (some 93) ?v3c rfl ?y3c ?r3c
        case y3c => exact tY
        case r3c =>
        try simp only [Act.put,setIfInBounds_toArray,set_cons_zero,set_cons_succ]
        refine tkY 4 (some 94) ?v4c rfl ?y4c ?r4c
        case y4c => exact tY
        case r4c =>
        try simp only [Act.put,setIfInBounds_toArray,set_cons_zero,set_cons_succ]
        refine tkY 6 (some 96) ?v6c rfl ?y6c ?r6c
        case y6c => exact tY
        case r6c =>
        try simp only [Act.put,setIfInBounds_toArray,set_cons_zero,set_cons_succ]
        refine tkY 7 (some 97) ?v7c rfl ?y7c ?r7c
        case y7c => exact tY
        case r7c =>
        try simp only [Act.put,setIfInBounds_toArray,set_cons_zero,set_cons_succ]
        refine tkY 8 (some 98) ?v8c rfl ?y8c ?r8c
        case y8c => exact tY
        case r8c =>
        try simp only [Act.put,setIfInBounds_toArray,set_cons_zero,set_cons_succ]
        refine tkY 9 (some 99) ?v9c rfl ?y9c ?r9c
        case y9c => exact tY
        case r9c =>
        try simp only [Act.put,setIfInBounds_toArray,set_cons_zero,set_cons_succ]
        refine tkY 10 (some 100) ?v10c rfl ?y10c ?r10c
        case y10c => exact tY
        case r10c =>
        try simp only [Act.put,setIfInBounds_toArray,set_cons_zero,set_cons_succ]
        refine wpAnyH_ready (rs := [5]) (by kernel_rfl) (by simp) ?_
        refine AllReadyH.cons (o := ⟨some 95, _, _, _, _, _⟩) rfl (fun K hK => ?_) AllReadyH.nil
        go_simp
        refine (jCanC w b d x l l L L g (g + 1) a.who a.n (fun q => q = ab) _ (HJ4.out.below ((Below.refl _ _).drew))).mono ?_
        rintro e w5 ⟨c1, l1, L1, rfl, ⟨hj5, hs5⟩, hx1⟩
        go_wp2_with fail
        have PX := hs5.whl rfl HA4.out.drew
        refine hK.out _ _ ⟨PX.cell 1, PX.cell 2⟩ (fun hHeld => ?_)
        clear hK K
        try simp only [Act.put,setIfInBounds_toArray,set_cons_zero,set_cons_succ]
        refine wpAnyH_ready (rs := [11]) (by kernel_rfl) (by simp) ?_
        refine AllReadyH.cons (o := ⟨some 101, _, _, _, _, _⟩) rfl (fun K hK => ?_) AllReadyH.nil
        go_simp
        refine (jCanD w b d x l1 l L1 L g (g + 1) a.who a.n Nm (fun q => q = ab) _ hj5 HNM.out.1 (by omega)).mono ?_
        rintro e w6 ⟨c2, l2, L2, rfl, ⟨hj6, hs6⟩, hx2⟩
        obtain ⟨rfl, rfl, rfl⟩ := hx1.det HBK.out hx2
        go_wp2_with fail
        have PX := hs6.whl rfl PX
        refine hK.out _ _ ⟨PX.cell 1, PX.cell 2⟩ (fun hHeld => ?_)
        clear hK K
        try simp only [Act.put,setIfInBounds_toArray,set_cons_zero,set_cons_succ]
        refine tkY 12 (some 102) ?v12c rfl ?y12c ?r12c
        case y12c => exact tY
        case r12c =>
        try simp only [Act.put,setIfInBounds_toArray,set_cons_zero,set_cons_succ]
        refine tkY 13 (some 9) ?v13c rfl ?y13c ?r13c
        case y13c => exact tY
        case r13c =>
        try simp only [Act.put,setIfInBounds_toArray,set_cons_zero,set_cons_succ]
        refine wpAnyH_done (by kernel_rfl) ?_ _
        go_wp2_with fail
        go_meet
        case rel => exact ⟨l1, L1, g, _, rfl, hj6, PX, ⟨hx1.nms HNM.out.1, hx1.ap HNM.out.2⟩, by rw [List.length_cons]; omega⟩
       ·
        go_wp2_with fail
        go_meet
        case rel => exact ⟨l, L, g, Nm, rfl, HJ4.out, HA4.out, HNM.out, by omega⟩

   case rest =>
    obtain ⟨l5, L5, g5, N5, rfl, hj5, ha5, hnm5, hnl5⟩ := hcut
    have hl5 : l5.length ≤ 101 := by have := hnm5.len hj5.oks.1.1; omega
    have HJ5 := Lib.hid hj5
    have HA5 := Lib.hid ha5
    have HNM5 := Lib.hid hnm5
    obtain ⟨r, hr⟩ : ∃ r, r = hasP l5 a.who.data.toList := ⟨_, rfl⟩
    obtain ⟨i0, i1, i2, i3⟩ := r
    have HI : Hid (hasP l5 a.who.data.toList = (i0, i1, i2, i3)) := Lib.hid hr.symm
    have y2 : wc.cell? ⟨ab, 2, none⟩ = some (.string a.who) := ha5.cell 2
    clear hj5 ha5 hnm5 hr HJ4 HA4 d0 d1 d2 d3 d4 d5 d6 d7 d8 d9 d10 d11 d12
    go_wp2_with fail
    refine wp_region_held_drew (S := (fun W => W.cell? ⟨ab, 2, none⟩ = some (.string a.who))) (by kernel_rfl) y2 (fun hHeld => ?_)
    refine tkY 0 (some 103) (.bool true) rfl ?y0h ?r0h
    case y0h => (intro w hSw; (try dsimp only at hSw); (try go_split_ands); (first | (go_simp; done) | (go_simp; simp)))
    case r0h =>
    try simp only [Act.put,setIfInBounds_toArray,set_cons_zero,set_cons_succ]
    refine tkY 1 (some 104) (.bool false) rfl ?y1h ?r1h
    case y1h => (intro w hSw; (try dsimp only at hSw); (try go_split_ands); (first | (go_simp; done) | (go_simp; simp)))
    case r1h =>
    try simp only [Act.put,setIfInBounds_toArray,set_cons_zero,set_cons_succ]
    refine tkY 2 (some 105) (.bool false) rfl ?y2h ?r2h
    case y2h => (intro w hSw; (try dsimp only at hSw); (try go_split_ands); (first | (go_simp; done) | (go_simp; simp)))
    case r2h =>
    try simp only [Act.put,setIfInBounds_toArray,set_cons_zero,set_cons_succ]
    refine tkY 3 (some 106) ?v3h rfl ?y3h ?r3h
    case y3h => exact tY
    case r3h =>
    try simp only [Act.put,setIfInBounds_toArray,set_cons_zero,set_cons_succ]
    refine tkY 4 (some 107) ?v4h rfl ?y4h ?r4h
    case y4h => exact tY
    case r4h =>
    try simp only [Act.put,setIfInBounds_toArray,set_cons_zero,set_cons_succ]
    refine tkY 5 (some 108) ?v5h rfl ?y5h ?r5h
    case y5h => exact tY
    case r5h =>
    try simp only [Act.put,setIfInBounds_toArray,set_cons_zero,set_cons_succ]
    refine tkY 7 (some 110) ?v7h rfl ?y7h ?r7h
    case y7h => exact tY
    case r7h =>
    try simp only [Act.put,setIfInBounds_toArray,set_cons_zero,set_cons_succ]
    refine tkY 8 (some 111) ?v8h rfl ?y8h ?r8h
    case y8h => exact tY
    case r8h =>
    try simp only [Act.put,setIfInBounds_toArray,set_cons_zero,set_cons_succ]
    refine tkY 9 (some 112) ?v9h rfl ?y9h ?r9h
    case y9h => exact tY
    case r9h =>
    try simp only [Act.put,setIfInBounds_toArray,set_cons_zero,set_cons_succ]
    refine wpAnyH_ready (rs := [6]) (by kernel_rfl) (by simp) ?_
    refine AllReadyH.cons (o := ⟨some 109, _, _, _, _, _⟩) rfl (fun K hK => ?_) AllReadyH.nil
    go_simp
    refine (jHasC w b d x l5 l5 L5 L5 g5 (g5 + 1) a.who HI.out (fun q => q = ab) _ (HJ5.out.below ((Below.refl _ _).drew))).mono ?_
    rintro e w7 ⟨rfl, hb7⟩
    go_wp2_with fail
    have hh7 := ((Below.refl _ _).drew).trans hb7
    have PX := HA5.out.below hh7 HA5.out.low
    refine hK.out _ _ (PX.cell 2) (fun hHeld => ?_)
    clear hK K
    try simp only [Act.put,setIfInBounds_toArray,set_cons_zero,set_cons_succ]
    refine wpAnyH_ready (rs := [10]) (by kernel_rfl) (by simp) ?_
    refine AllReadyH.cons (o := ⟨some 113, _, _, _, _, _⟩) rfl (fun K hK => ?_) AllReadyH.nil
    go_simp
    refine (jHasD w b d x l5 l5 L5 L5 g5 (g5 + 1) a.who HI.out (fun q => q = ab) _ (HJ5.out.below hh7) (by omega)).mono ?_
    rintro e w8 ⟨rfl, hb8⟩
    go_wp2_with fail
    have hh8 := hh7.trans (hb8.mono hh7.size)
    have PX := HA5.out.below hh8 HA5.out.low
    refine hK.out _ _ (PX.cell 2) (fun hHeld => ?_)
    clear hK K
    try simp only [Act.put,setIfInBounds_toArray,set_cons_zero,set_cons_succ]
    refine tkY 11 (some 114) (.bool false) rfl ?y11h ?r11h
    case y11h => (intro w hSw; (try dsimp only at hSw); (try go_split_ands); (first | (go_simp; done) | (go_simp; simp)))
    case r11h =>
    try simp only [Act.put,setIfInBounds_toArray,set_cons_zero,set_cons_succ]
    refine tkY 12 (some 115) (.bool false) rfl ?y12h ?r12h
    case y12h => (intro w hSw; (try dsimp only at hSw); (try go_split_ands); (first | (go_simp; done) | (go_simp; simp)))
    case r12h =>
    try simp only [Act.put,setIfInBounds_toArray,set_cons_zero,set_cons_succ]
    refine wpAnyH_done (by kernel_rfl) ?_ _
    go_wp2_with fail
    exact ⟨⟨i + 1, l5, L5, g5, N5, by omega, by go_num, (by rw [← hxx]; exact HJ5.out.belowD hh8 (fun q hq => hq.elim)), HNM5.out, hnl5⟩, by simp [intOf]; omega⟩

  ·
   obtain rfl : min xs.length 100 = i := by omega
   by_cases q3 : ((min xs.length 100 : Nat) : Int) < (xs.length : Int)
   ·
    have q4 : ¬ ((min xs.length 100 : Nat) : Int) < 100 := by omega
    go_wp2_with fail
    refine bodyPost_ret (v := .tuple #[.pointer (some ⟨b, 0, none⟩), .pointer (some ⟨d, 0, none⟩), .bool true]) (by simp [results, Tryz.results7, go_sem]) rfl (by first | exact ⟨b, d, x, l, L, g, Nm, rfl, HJ.out, HNM.out, by omega⟩ | exact ⟨b, d, rfl, x, l, L, g, Nm, HJ.out, HNM.out, by omega⟩ | exact ⟨b, d, rfl, x, l, L, g, HJ.out, Nm, HNM.out, by omega⟩ | exact ⟨b, d, rfl, x, l, L, ⟨g, HJ.out⟩, Nm, HNM.out, by omega⟩)
   ·
    go_wp2_with fail
    refine bodyPost_ret (v := .tuple #[.pointer (some ⟨b, 0, none⟩), .pointer (some ⟨d, 0, none⟩), .bool true]) (by simp [results, Tryz.results7, go_sem]) rfl (by first | exact ⟨b, d, x, l, L, g, Nm, rfl, HJ.out, HNM.out, by omega⟩ | exact ⟨b, d, rfl, x, l, L, g, Nm, HJ.out, HNM.out, by omega⟩ | exact ⟨b, d, rfl, x, l, L, g, HJ.out, Nm, HNM.out, by omega⟩ | exact ⟨b, d, rfl, x, l, L, ⟨g, HJ.out⟩, Nm, HNM.out, by omega⟩)
end Go.Proofs.YtdlbiobjnohfbaaGreat
