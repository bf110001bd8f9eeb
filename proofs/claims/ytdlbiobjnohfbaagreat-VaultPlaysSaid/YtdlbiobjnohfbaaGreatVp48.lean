/- vault's law: played. -/
import Derived.Test.YtdlbiobjnohfbaaGreatVp47
import Derived.Deep.CutBlock
import Derived.Deep.DeepCutAuto
import Derived.Deep.RegionLaw
namespace Go.Proofs.YtdlbiobjnohfbaaGreat
open Go.RowKit Go.ChangeMaps Go.MapKept
open List (setIfInBounds_toArray set_cons_zero set_cons_succ)
set_option linter.unusedVariables false
set_option linter.unusedSimpArgs false
theorem je_new {w w1 w2 : World} (hv : VtAt w1 w.heap.size (.map none) (fun _ => .slice none 0 0) [] [] 0 0) (hb1 : Below w.heap.size w w1) (hr : RvH w2 w1.heap.size (w1.heap.size + 1) w1.heap.size (.slice none 0 0) (.slice none 0 0) [] [] 0 1) (hb2 : Below w1.heap.size w1 w2) :
  JE w w2 w.heap.size (w1.heap.size + 1) w1.heap.size [] [] 0 [] [] (0 + 1) (fun _ => False) := by
 have hz1 := hb1.size
 have hlow := hv.lows
 refine ⟨w1.heap.size, _, _, 0, _, _, 0, ⟨hv.below hb2, ⟨hb1.trans (hb2.mono hz1), fun k hk => ?_⟩, hr, hz1, fun k hk hn => ?_, Bk.nil, by omega, PmOk.nil, by simp⟩, fun q hq => hq.elim⟩
 ·
  rcases hk with (e | ⟨i, _, e⟩) | e
  · omega
  · cases e
  · cases e
 ·
  have h1 := (hr.lows k hk).1
  have h2 := hlow k hn
  omega
set_option maxHeartbeats 10000000 in
set_option maxRecDepth 10000 in
theorem played (A : Option Addr) (c : Nat) (xs : List Va) (w : World) (hx : Cells w w.heap.size A xs.length c 13 (xs.flatMap vaV)) :
  Calls Tryz.prog 7 #[.slice A xs.length c] w fun e w' => ∃ b d x l L g Nm, e = .returned (.tuple #[.pointer (some ⟨b, 0, none⟩), .pointer (some ⟨d, 0, none⟩), .bool true]) ∧ JE w w' b d x l L g l L (g + 1) (fun _ => False) ∧ Nms Nm l L ∧ Nm.length ≤ 100 := by
 have HX := Lib.hid hx
 clear hx
 go_enter Tryz.func7, Tryz.ntmps7
 go_wp2_with (first
  | (go_at_call 16; refine (refNew _).mono ?_; rintro e w2 ⟨rfl, hr2, hb2⟩; have HR2 := Lib.hid hr2; have HB2 := Lib.hid hb2; clear hr2 hb2)
  | (go_at_call 15; refine (newVault _).mono ?_; rintro e w1 ⟨rfl, hv1, hb1⟩; have HV1 := Lib.hid hv1; have HB1 := Lib.hid hb1; clear hv1 hb1)
  | fail)
 have hj := je_new HV1.out HB1.out HR2.out HB2.out
 obtain ⟨b, hb⟩ : ∃ b, b = w.heap.size := ⟨_, rfl⟩
 obtain ⟨d, hd⟩ : ∃ d, d = w1.heap.size + 1 := ⟨_, rfl⟩
 rw [← hb, ← hd] at hj
 rw [← hb, ← hd]
 have HJ := Lib.hid hj
 clear hj hb hd HV1 HB1 HR2 HB2
 go_loopw [7, 8, 9, 10, 11, 12, 13] (fun iv v8 v9 v10 v11 v12 v13 wr => ∃ (i : Nat) (l : Pm) (L : List Od) (g : Int) (Nm : List By), i ≤ min xs.length 100 ∧ iv = .int .i64 i ∧ JE w wr b d w1.heap.size l L g l L (g + 1) (fun _ => False) ∧ Nms Nm l L ∧ Nm.length ≤ i) (fun iv _ _ _ _ _ _ _ => min xs.length 100 - (intOf iv).toNat)
 case atStart => exact ⟨0, [], [], 0, [], Nat.zero_le _, rfl, HJ.out, Nms.nil, by simp⟩
 case round =>
  clear HJ
  obtain ⟨i, l, L, g, Nm, hil, rfl, hj, hnm, hnl⟩ := hrel
  obtain ⟨x, hxx⟩ : ∃ x, x = w1.heap.size := ⟨_, rfl⟩
  rw [← hxx] at hj
  have hBw := hj.bel
  have hsw := hBw.size
  have HJ := Lib.hid hj
  have HNM := Lib.hid hnm
  by_cases hlt : i < min xs.length 100
  ·
   have q3 : (i : Int) < (xs.length : Int) := by omega
   have q4 : (i : Int) < 100 := by omega
   obtain ⟨qb, qo, rfl, hqb, hcell⟩ := va_cell HX.out (show i < xs.length by omega)
   obtain ⟨a, ha⟩ : ∃ a, a = xs[i] := ⟨_, rfl⟩
   rw [← ha] at hcell
   have c0 := bkeep hBw (hcell 0 _ (by decide) rfl) hqb
   have c1 := bkeep hBw (hcell 1 _ (by decide) rfl) hqb
   have c2 := bkeep hBw (hcell 2 _ (by decide) rfl) hqb
   have c3 := bkeep hBw (hcell 3 _ (by decide) rfl) hqb
   have c4 := bkeep hBw (hcell 4 _ (by decide) rfl) hqb
   have c5 := bkeep hBw (hcell 5 _ (by decide) rfl) hqb
   have c6 := bkeep hBw (hcell 6 _ (by decide) rfl) hqb
   have c7 := bkeep hBw (hcell 7 _ (by decide) rfl) hqb
   have c8 := bkeep hBw (hcell 8 _ (by decide) rfl) hqb
   have c9 := bkeep hBw (hcell 9 _ (by decide) rfl) hqb
   have c10 := bkeep hBw (hcell 10 _ (by decide) rfl) hqb
   have c11 := bkeep hBw (hcell 11 _ (by decide) rfl) hqb
   have c12 := bkeep hBw (hcell 12 _ (by decide) rfl) hqb
   simp only [Nat.add_zero] at c0
   have hll : l.length ≤ 100 := by have := hnm.len hj.oks.1.1; omega
   obtain ⟨hok, ⟨lastk, hbk⟩, _, _, hg0, hg1, h32⟩ := hj.oks
   have HBK := Lib.hid hbk
   clear hj hnm hcell ha hBw hok hbk
   obtain ⟨ab, hab⟩ : ∃ y, y = wr.heap.size := ⟨_, rfl⟩
   obtain ⟨W4, hW4⟩ : ∃ y, y = wr.alloc (.cells #[.int .i64 a.kind, .int .i64 a.n, .string a.who, .int .i64 a.i.1, .int .i64 a.i.2.1, .int .i64 a.i.2.2.1, .int .i64 a.i.2.2.2, .int .i64 a.o.id, .string a.o.who, .bool a.o.buy, .int .i64 a.o.item, .int .i64 a.o.ct, .int .i64 a.o.pr] 40) := ⟨_, rfl⟩
   have hs4 : W4.heap.size = wr.heap.size + 1 := by rw [hW4]; simp
   have hB4 : Below wr.heap.size wr W4 := by rw [hW4]; exact (Below.refl _ _).alloc (Nat.le_refl _) _
   have HA4 : Hid (Whl W4 ab 40 #[.int .i64 a.kind, .int .i64 a.n, .string a.who, .int .i64 a.i.1, .int .i64 a.i.2.1, .int .i64 a.i.2.2.1, .int .i64 a.i.2.2.2, .int .i64 a.o.id, .string a.o.who, .bool a.o.buy, .int .i64 a.o.item, .int .i64 a.o.ct, .int .i64 a.o.pr]) := Lib.hid (by rw [hW4]; exact Whl.new hab)
   have HJ4 : Hid (JE w W4 b d x l L g l L (g + 1) (fun q => q = ab)) := Lib.hid (HJ.out.belowD hB4 (fun q hq => .inr (by omega)))
   clear hB4
   go_upto_block 2 with fail
   rw [← hW4, ← hab]
   clear hW4 hab HJ
   have d0 : W4.cell? ⟨ab, 0, none⟩ = some (.int .i64 a.kind) := HA4.out.cell 0
   have d1 : W4.cell? ⟨ab, 1, none⟩ = some (.int .i64 a.n) := HA4.out.cell 1
   have d2 : W4.cell? ⟨ab, 2, none⟩ = some (.string a.who) := HA4.out.cell 2
   have d3 : W4.cell? ⟨ab, 3, none⟩ = some (.int .i64 a.i.1) := HA4.out.cell 3
   have d4 : W4.cell? ⟨ab, 4, none⟩ = some (.int .i64 a.i.2.1) := HA4.out.cell 4
   have d5 : W4.cell? ⟨ab, 5, none⟩ = some (.int .i64 a.i.2.2.1) := HA4.out.cell 5
   have d6 : W4.cell? ⟨ab, 6, none⟩ = some (.int .i64 a.i.2.2.2) := HA4.out.cell 6
   have d7 : W4.cell? ⟨ab, 7, none⟩ = some (.int .i64 a.o.id) := HA4.out.cell 7
   have d8 : W4.cell? ⟨ab, 8, none⟩ = some (.string a.o.who) := HA4.out.cell 8
   have d9 : W4.cell? ⟨ab, 9, none⟩ = some (.bool a.o.buy) := HA4.out.cell 9
   have d10 : W4.cell? ⟨ab, 10, none⟩ = some (.int .i64 a.o.item) := HA4.out.cell 10
   have d11 : W4.cell? ⟨ab, 11, none⟩ = some (.int .i64 a.o.ct) := HA4.out.cell 11
   have d12 : W4.cell? ⟨ab, 12, none⟩ = some (.int .i64 a.o.pr) := HA4.out.cell 12
   clear c0 c1 c2 c3 c4 c5 c6 c7 c8 c9 c10 c11 c12
   go_cut [9, 33] (fun okv kd wq => ∃ (l5 : Pm) (L5 : List Od) (g5 : Int) (N5 : List By), okv = .bool true ∧ JE w wq b d x l5 L5 g5 l5 L5 (g5 + 1) (fun q => q = ab) ∧ Whl wq ab 40 #[.int .i64 a.kind, .int .i64 a.n, .string a.who, .int .i64 a.i.1, .int .i64 a.i.2.1, .int .i64 a.i.2.2.1, .int .i64 a.i.2.2.2, .int .i64 a.o.id, .string a.o.who, .bool a.o.buy, .int .i64 a.o.item, .int .i64 a.o.ct, .int .i64 a.o.pr] ∧ Nms N5 l5 L5 ∧ N5.length ≤ i + 1)
   case first =>
    by_cases k1 : a.kind = 1
    ·
     go_wp2_with fail
     refine wp_region_held_drew (S := (fun W => W.cell? ⟨ab, 2, none⟩ = some (.string a.who) ∧ W.cell? ⟨ab, 3, none⟩ = some (.int .i64 a.i.1) ∧ W.cell? ⟨ab, 4, none⟩ = some (.int .i64 a.i.2.1) ∧ W.cell? ⟨ab, 5, none⟩ = some (.int .i64 a.i.2.2.1) ∧ W.cell? ⟨ab, 6, none⟩ = some (.int .i64 a.i.2.2.2))) (by kernel_rfl) ⟨d2, d3, d4, d5, d6⟩ (fun hHeld => ?_)
     refine wpAnyH_take (i := 0) (oi := ⟨some 36, _, _, _, _, _⟩) (v := ?v0p) rfl (by kernel_rfl) (by kernel_rfl) (by kernel_rfl) (fun _ _ _ h => h) (Or.inl ⟨by rfl, ?y0p⟩) (by assumption) ?r0p
     case y0p => (intro w hSw; (try dsimp only at hSw); (try go_split_ands); go_simp); (try with_reducible rfl)
     case r0p =>
     (try simp only [Act.put, setIfInBounds_toArray, set_cons_zero, set_cons_succ])
     refine wpAnyH_take (i := 1) (oi := ⟨some 37, _, _, _, _, _⟩) (v := ?v1p) rfl (by kernel_rfl) (by kernel_rfl) (by kernel_rfl) (fun _ _ _ h => h) (Or.inl ⟨by rfl, ?y1p⟩) (by assumption) ?r1p
     case y1p => (intro w hSw; (try dsimp only at hSw); (try go_split_ands); go_simp); (try with_reducible rfl)
     case r1p =>
     (try simp only [Act.put, setIfInBounds_toArray, set_cons_zero, set_cons_succ])
     refine wpAnyH_take (i := 2) (oi := ⟨some 38, _, _, _, _, _⟩) (v := ?v2p) rfl (by kernel_rfl) (by kernel_rfl) (by kernel_rfl) (fun _ _ _ h => h) (Or.inl ⟨by rfl, ?y2p⟩) (by assumption) ?r2p
     case y2p => (intro w hSw; (try dsimp only at hSw); (try go_split_ands); go_simp); (try with_reducible rfl)
     case r2p =>
     (try simp only [Act.put, setIfInBounds_toArray, set_cons_zero, set_cons_succ])
     refine wpAnyH_take (i := 3) (oi := ⟨some 39, _, _, _, _, _⟩) (v := ?v3p) rfl (by kernel_rfl) (by kernel_rfl) (by kernel_rfl) (fun _ _ _ h => h) (Or.inl ⟨by rfl, ?y3p⟩) (by assumption) ?r3p
     case y3p => (intro w hSw; (try dsimp only at hSw); (try go_split_ands); go_simp); (try with_reducible rfl)
     case r3p =>
     (try simp only [Act.put, setIfInBounds_toArray, set_cons_zero, set_cons_succ])
     refine wpAnyH_take (i := 4) (oi := ⟨some 40, _, _, _, _, _⟩) (v := ?v4p) rfl (by kernel_rfl) (by kernel_rfl) (by kernel_rfl) (fun _ _ _ h => h) (Or.inl ⟨by rfl, ?y4p⟩) (by assumption) ?r4p
     case y4p => (intro w hSw; (try dsimp only at hSw); (try go_split_ands); go_simp); (try with_reducible rfl)
     case r4p =>
     (try simp only [Act.put, setIfInBounds_toArray, set_cons_zero, set_cons_succ])
     refine wpAnyH_take (i := 6) (oi := ⟨some 42, _, _, _, _, _⟩) (v := ?v6p) rfl (by kernel_rfl) (by kernel_rfl) (by kernel_rfl) (fun _ _ _ h => h) (Or.inl ⟨by rfl, ?y6p⟩) (by assumption) ?r6p
     case y6p => (intro w hSw; (try dsimp only at hSw); (try go_split_ands); go_simp); (try with_reducible rfl)
     case r6p =>
     (try simp only [Act.put, setIfInBounds_toArray, set_cons_zero, set_cons_succ])
     refine wpAnyH_take (i := 7) (oi := ⟨some 43, _, _, _, _, _⟩) (v := ?v7p) rfl (by kernel_rfl) (by kernel_rfl) (by kernel_rfl) (fun _ _ _ h => h) (Or.inl ⟨by rfl, ?y7p⟩) (by assumption) ?r7p
     case y7p => (intro w hSw; (try dsimp only at hSw); (try go_split_ands); go_simp); (try with_reducible rfl)
     case r7p =>
     (try simp only [Act.put, setIfInBounds_toArray, set_cons_zero, set_cons_succ])
     refine wpAnyH_take (i := 8) (oi := ⟨some 44, _, _, _, _, _⟩) (v := ?v8p) rfl (by kernel_rfl) (by kernel_rfl) (by kernel_rfl) (fun _ _ _ h => h) (Or.inl ⟨by rfl, ?y8p⟩) (by assumption) ?r8p
     case y8p => (intro w hSw; (try dsimp only at hSw); (try go_split_ands); go_simp); (try with_reducible rfl)
     case r8p =>
     (try simp only [Act.put, setIfInBounds_toArray, set_cons_zero, set_cons_succ])
     refine wpAnyH_take (i := 9) (oi := ⟨some 45, _, _, _, _, _⟩) (v := ?v9p) rfl (by kernel_rfl) (by kernel_rfl) (by kernel_rfl) (fun _ _ _ h => h) (Or.inl ⟨by rfl, ?y9p⟩) (by assumption) ?r9p
     case y9p => (intro w hSw; (try dsimp only at hSw); (try go_split_ands); go_simp); (try with_reducible rfl)
     case r9p =>
     (try simp only [Act.put, setIfInBounds_toArray, set_cons_zero, set_cons_succ])
     refine wpAnyH_take (i := 10) (oi := ⟨some 46, _, _, _, _, _⟩) (v := ?v10p) rfl (by kernel_rfl) (by kernel_rfl) (by kernel_rfl) (fun _ _ _ h => h) (Or.inl ⟨by rfl, ?y10p⟩) (by assumption) ?r10p
     case y10p => (intro w hSw; (try dsimp only at hSw); (try go_split_ands); go_simp); (try with_reducible rfl)
     case r10p =>
     (try simp only [Act.put, setIfInBounds_toArray, set_cons_zero, set_cons_succ])
     refine wpAnyH_ready (rs := [5]) (by kernel_rfl) (by simp) ?_
     refine AllReadyH.cons (o := ⟨some 41, _, _, _, _, _⟩) rfl (fun K hK => ?_) AllReadyH.nil
     go_simp
     refine (jPutC w b d x l l L L g (g + 1) a.who a.i (fun q => q = ab) _ (HJ4.out.below ((Below.refl _ _).drew))).mono ?_
     rintro e w5 ⟨rfl, hj5, hs5⟩
     go_wp2_with fail
     have PX := hs5.whl rfl HA4.out.drew
     refine hK.out _ _ ⟨PX.cell 2, PX.cell 3, PX.cell 4, PX.cell 5, PX.cell 6⟩ (fun hHeld => ?_)
     clear hK K
     (try simp only [Act.put, setIfInBounds_toArray, set_cons_zero, set_cons_succ])
     refine wpAnyH_ready (rs := [11]) (by kernel_rfl) (by simp) ?_
     refine AllReadyH.cons (o := ⟨some 47, _, _, _, _, _⟩) rfl (fun K hK => ?_) AllReadyH.nil
     go_simp
     refine (jPutD w b d x (putL l a.who a.i) l L L g (g + 1) a.who a.i (fun q => q = ab) _ hj5 (by omega)).mono ?_
     rintro e w6 ⟨rfl, hj6, hs6⟩
     go_wp2_with fail
     have PX := hs6.whl rfl PX
     refine hK.out _ _ ⟨PX.cell 2, PX.cell 3, PX.cell 4, PX.cell 5, PX.cell 6⟩ (fun hHeld => ?_)
     clear hK K
     (try simp only [Act.put, setIfInBounds_toArray, set_cons_zero, set_cons_succ])
     refine wpAnyH_take (i := 12) (oi := ⟨some 48, _, _, _, _, _⟩) (v := ?v12p) rfl (by kernel_rfl) (by kernel_rfl) (by kernel_rfl) (fun _ _ _ h => h) (Or.inl ⟨by rfl, ?y12p⟩) (by assumption) ?r12p
     case y12p => (intro w hSw; (try dsimp only at hSw); (try go_split_ands); go_simp); (try with_reducible rfl)
     case r12p =>
     (try simp only [Act.put, setIfInBounds_toArray, set_cons_zero, set_cons_succ])
     refine wpAnyH_take (i := 13) (oi := ⟨some 9, _, _, _, _, _⟩) (v := ?v13p) rfl (by kernel_rfl) (by kernel_rfl) (by kernel_rfl) (fun _ _ _ h => h) (Or.inl ⟨by rfl, ?y13p⟩) (by assumption) ?r13p
     case y13p => (intro w hSw; (try dsimp only at hSw); (try go_split_ands); go_simp); (try with_reducible rfl)
     case r13p =>
     (try simp only [Act.put, setIfInBounds_toArray, set_cons_zero, set_cons_succ])
     refine wpAnyH_done (by kernel_rfl) ?_ _
     go_wp2_with fail
     go_meet
     case rel => exact ⟨putL l a.who a.i, L, g, _, rfl, hj6, PX, putL_nms HNM.out a.who a.i, by rw [List.length_cons]; omega⟩
    ·
     by_cases k2 : a.kind = 2
     ·
      go_wp2_with fail
      refine wp_region_held_drew (S := (fun W => W.cell? ⟨ab, 2, none⟩ = some (.string a.who) ∧ W.cell? ⟨ab, 3, none⟩ = some (.int .i64 a.i.1) ∧ W.cell? ⟨ab, 4, none⟩ = some (.int .i64 a.i.2.1) ∧ W.cell? ⟨ab, 5, none⟩ = some (.int .i64 a.i.2.2.1) ∧ W.cell? ⟨ab, 6, none⟩ = some (.int .i64 a.i.2.2.2))) (by kernel_rfl) ⟨d2, d3, d4, d5, d6⟩ (fun hHeld => ?_)
      refine wpAnyH_take (i := 0) (oi := ⟨some 51, _, _, _, _, _⟩) (v := ?v0t) rfl (by kernel_rfl) (by kernel_rfl) (by kernel_rfl) (fun _ _ _ h => h) (Or.inl ⟨by rfl, ?y0t⟩) (by assumption) ?r0t
      case y0t => (intro w hSw; (try dsimp only at hSw); (try go_split_ands); go_simp); (try with_reducible rfl)
      case r0t =>
      (try simp only [Act.put, setIfInBounds_toArray, set_cons_zero, set_cons_succ])
      refine wpAnyH_take (i := 1) (oi := ⟨some 52, _, _, _, _, _⟩) (v := ?v1t) rfl (by kernel_rfl) (by kernel_rfl) (by kernel_rfl) (fun _ _ _ h => h) (Or.inl ⟨by rfl, ?y1t⟩) (by assumption) ?r1t
      case y1t => (intro w hSw; (try dsimp only at hSw); (try go_split_ands); go_simp); (try with_reducible rfl)
      case r1t =>
      (try simp only [Act.put, setIfInBounds_toArray, set_cons_zero, set_cons_succ])
      refine wpAnyH_take (i := 2) (oi := ⟨some 53, _, _, _, _, _⟩) (v := ?v2t) rfl (by kernel_rfl) (by kernel_rfl) (by kernel_rfl) (fun _ _ _ h => h) (Or.inl ⟨by rfl, ?y2t⟩) (by assumption) ?r2t
      case y2t => (intro w hSw; (try dsimp only at hSw); (try go_split_ands); go_simp); (try with_reducible rfl)
      case r2t =>
      (try simp only [Act.put, setIfInBounds_toArray, set_cons_zero, set_cons_succ])
      refine wpAnyH_take (i := 3) (oi := ⟨some 54, _, _, _, _, _⟩) (v := ?v3t) rfl (by kernel_rfl) (by kernel_rfl) (by kernel_rfl) (fun _ _ _ h => h) (Or.inl ⟨by rfl, ?y3t⟩) (by assumption) ?r3t
      case y3t => (intro w hSw; (try dsimp only at hSw); (try go_split_ands); go_simp); (try with_reducible rfl)
      case r3t =>
      (try simp only [Act.put, setIfInBounds_toArray, set_cons_zero, set_cons_succ])
      refine wpAnyH_take (i := 4) (oi := ⟨some 55, _, _, _, _, _⟩) (v := ?v4t) rfl (by kernel_rfl) (by kernel_rfl) (by kernel_rfl) (fun _ _ _ h => h) (Or.inl ⟨by rfl, ?y4t⟩) (by assumption) ?r4t
      case y4t => (intro w hSw; (try dsimp only at hSw); (try go_split_ands); go_simp); (try with_reducible rfl)
      case r4t =>
      (try simp only [Act.put, setIfInBounds_toArray, set_cons_zero, set_cons_succ])
      refine wpAnyH_take (i := 6) (oi := ⟨some 57, _, _, _, _, _⟩) (v := ?v6t) rfl (by kernel_rfl) (by kernel_rfl) (by kernel_rfl) (fun _ _ _ h => h) (Or.inl ⟨by rfl, ?y6t⟩) (by assumption) ?r6t
      case y6t => (intro w hSw; (try dsimp only at hSw); (try go_split_ands); go_simp); (try with_reducible rfl)
      case r6t =>
      (try simp only [Act.put, setIfInBounds_toArray, set_cons_zero, set_cons_succ])
      refine wpAnyH_take (i := 7) (oi := ⟨some 58, _, _, _, _, _⟩) (v := ?v7t) rfl (by kernel_rfl) (by kernel_rfl) (by kernel_rfl) (fun _ _ _ h => h) (Or.inl ⟨by rfl, ?y7t⟩) (by assumption) ?r7t
      case y7t => (intro w hSw; (try dsimp only at hSw); (try go_split_ands); go_simp); (try with_reducible rfl)
      case r7t =>
      (try simp only [Act.put, setIfInBounds_toArray, set_cons_zero, set_cons_succ])
      refine wpAnyH_take (i := 8) (oi := ⟨some 59, _, _, _, _, _⟩) (v := ?v8t) rfl (by kernel_rfl) (by kernel_rfl) (by kernel_rfl) (fun _ _ _ h => h) (Or.inl ⟨by rfl, ?y8t⟩) (by assumption) ?r8t
      case y8t => (intro w hSw; (try dsimp only at hSw); (try go_split_ands); go_simp); (try with_reducible rfl)
      case r8t =>
      (try simp only [Act.put, setIfInBounds_toArray, set_cons_zero, set_cons_succ])
      refine wpAnyH_take (i := 9) (oi := ⟨some 60, _, _, _, _, _⟩) (v := ?v9t) rfl (by kernel_rfl) (by kernel_rfl) (by kernel_rfl) (fun _ _ _ h => h) (Or.inl ⟨by rfl, ?y9t⟩) (by assumption) ?r9t
      case y9t => (intro w hSw; (try dsimp only at hSw); (try go_split_ands); go_simp); (try with_reducible rfl)
      case r9t =>
      (try simp only [Act.put, setIfInBounds_toArray, set_cons_zero, set_cons_succ])
      refine wpAnyH_take (i := 10) (oi := ⟨some 61, _, _, _, _, _⟩) (v := ?v10t) rfl (by kernel_rfl) (by kernel_rfl) (by kernel_rfl) (fun _ _ _ h => h) (Or.inl ⟨by rfl, ?y10t⟩) (by assumption) ?r10t
      case y10t => (intro w hSw; (try dsimp only at hSw); (try go_split_ands); go_simp); (try with_reducible rfl)
      case r10t =>
      (try simp only [Act.put, setIfInBounds_toArray, set_cons_zero, set_cons_succ])
      refine wpAnyH_ready (rs := [5]) (by kernel_rfl) (by simp) ?_
      refine AllReadyH.cons (o := ⟨some 56, _, _, _, _, _⟩) rfl (fun K hK => ?_) AllReadyH.nil
      go_simp
      refine (jTakeC w b d x l l L L g (g + 1) a.who a.i (fun q => q = ab) _ (HJ4.out.below ((Below.refl _ _).drew))).mono ?_
      rintro e w5 ⟨rfl, hj5, hs5⟩
      go_wp2_with fail
      have PX := hs5.whl rfl HA4.out.drew
      refine hK.out _ _ ⟨PX.cell 2, PX.cell 3, PX.cell 4, PX.cell 5, PX.cell 6⟩ (fun hHeld => ?_)
      clear hK K
      (try simp only [Act.put, setIfInBounds_toArray, set_cons_zero, set_cons_succ])
      refine wpAnyH_ready (rs := [11]) (by kernel_rfl) (by simp) ?_
      refine AllReadyH.cons (o := ⟨some 62, _, _, _, _, _⟩) rfl (fun K hK => ?_) AllReadyH.nil
      go_simp
      refine (jTakeD w b d x (takeL l a.who a.i) l L L g (g + 1) a.who a.i (fun q => q = ab) _ hj5 (by omega)).mono ?_
      rintro e w6 ⟨rfl, hj6, hs6⟩
      go_wp2_with fail
      have PX := hs6.whl rfl PX
      refine hK.out _ _ ⟨PX.cell 2, PX.cell 3, PX.cell 4, PX.cell 5, PX.cell 6⟩ (fun hHeld => ?_)
      clear hK K
      (try simp only [Act.put, setIfInBounds_toArray, set_cons_zero, set_cons_succ])
      refine wpAnyH_take (i := 12) (oi := ⟨some 63, _, _, _, _, _⟩) (v := ?v12t) rfl (by kernel_rfl) (by kernel_rfl) (by kernel_rfl) (fun _ _ _ h => h) (Or.inl ⟨by rfl, ?y12t⟩) (by assumption) ?r12t
      case y12t => (intro w hSw; (try dsimp only at hSw); (try go_split_ands); go_simp); (try with_reducible rfl)
      case r12t =>
      (try simp only [Act.put, setIfInBounds_toArray, set_cons_zero, set_cons_succ])
      refine wpAnyH_take (i := 13) (oi := ⟨some 9, _, _, _, _, _⟩) (v := ?v13t) rfl (by kernel_rfl) (by kernel_rfl) (by kernel_rfl) (fun _ _ _ h => h) (Or.inl ⟨by rfl, ?y13t⟩) (by assumption) ?r13t
      case y13t => (intro w hSw; (try dsimp only at hSw); (try go_split_ands); go_simp); (try with_reducible rfl)
      case r13t =>
      (try simp only [Act.put, setIfInBounds_toArray, set_cons_zero, set_cons_succ])
      refine wpAnyH_done (by kernel_rfl) ?_ _
      go_wp2_with fail
      go_meet
      case rel => exact ⟨takeL l a.who a.i, L, g, _, rfl, hj6, PX, takeL_nms HNM.out a.who a.i, by rw [List.length_cons]; omega⟩
     ·
      by_cases k3 : a.kind = 3
      ·
       skip
       go_wp2_with fail
       refine (jOrdC w b d x l l L L g (g + 1) a.o (fun q => q = ab) _ HJ4.out).mono ?_
       rintro e w5 ⟨n1, c1, l1, L1, g1, rfl, ⟨hj5, hs5⟩, hx1⟩
       have PX := hs5.whl rfl HA4.out
       have e7 : w5.cell? ⟨ab, 7, none⟩ = some (.int .i64 a.o.id) := PX.cell 7
       have e8 : w5.cell? ⟨ab, 8, none⟩ = some (.string a.o.who) := PX.cell 8
       have e9 : w5.cell? ⟨ab, 9, none⟩ = some (.bool a.o.buy) := PX.cell 9
       have e10 : w5.cell? ⟨ab, 10, none⟩ = some (.int .i64 a.o.item) := PX.cell 10
       have e11 : w5.cell? ⟨ab, 11, none⟩ = some (.int .i64 a.o.ct) := PX.cell 11
       have e12 : w5.cell? ⟨ab, 12, none⟩ = some (.int .i64 a.o.pr) := PX.cell 12
       go_wp2_with fail
       refine (jOrdD w b d x l1 l L1 L g1 g a.o Nm (fun q => q = ab) _ hj5 HNM.out (by omega)).mono ?_
       rintro e w6 ⟨n2, c2, l2, L2, g2, rfl, ⟨hj6, hs6⟩, hx2⟩
       obtain ⟨rfl, rfl, rfl, rfl, rfl⟩ := hx1.det HBK.out hx2
       have PX := hs6.whl rfl PX
       go_wp2_with fail
       go_meet
       case rel => exact ⟨l1, L1, g1, _, rfl, hj6, PX, hx1.nms HNM.out, by rw [List.length_cons]; omega⟩
      ·
       by_cases k4 : a.kind = 4
       ·
        go_wp2_with fail
        refine wp_region_held_drew (S := (fun W => W.cell? ⟨ab, 1, none⟩ = some (.int .i64 a.n) ∧ W.cell? ⟨ab, 2, none⟩ = some (.string a.who))) (by kernel_rfl) ⟨d1, d2⟩ (fun hHeld => ?_)
        refine wpAnyH_take (i := 0) (oi := ⟨some 90, _, _, _, _, _⟩) (v := ?v0c) rfl (by kernel_rfl) (by kernel_rfl) (by kernel_rfl) (fun _ _ _ h => h) (Or.inl ⟨by rfl, ?y0c⟩) (by assumption) ?r0c
        case y0c => (intro w hSw; (try dsimp only at hSw); (try go_split_ands); go_simp); (try with_reducible rfl)
        case r0c =>
        (try simp only [Act.put, setIfInBounds_toArray, set_cons_zero, set_cons_succ])
        refine wpAnyH_take (i := 1) (oi := ⟨some 91, _, _, _, _, _⟩) (v := ?v1c) rfl (by kernel_rfl) (by kernel_rfl) (by kernel_rfl) (fun _ _ _ h => h) (Or.inl ⟨by rfl, ?y1c⟩) (by assumption) ?r1c
        case y1c => (intro w hSw; (try dsimp only at hSw); (try go_split_ands); go_simp); (try with_reducible rfl)
        case r1c =>
        (try simp only [Act.put, setIfInBounds_toArray, set_cons_zero, set_cons_succ])
        refine wpAnyH_take (i := 2) (oi := ⟨some 92, _, _, _, _, _⟩) (v := ?v2c) rfl (by kernel_rfl) (by kernel_rfl) (by kernel_rfl) (fun _ _ _ h => h) (Or.inl ⟨by rfl, ?y2c⟩) (by assumption) ?r2c
        case y2c => (intro w hSw; (try dsimp only at hSw); (try go_split_ands); go_simp); (try with_reducible rfl)
        case r2c =>
        (try simp only [Act.put, setIfInBounds_toArray, set_cons_zero, set_cons_succ])
        refine wpAnyH_take (i := 3) (oi := ⟨some 93, _, _, _, _, _⟩) (v := ?v3c) rfl (by kernel_rfl) (by kernel_rfl) (by kernel_rfl) (fun _ _ _ h => h) (Or.inl ⟨by rfl, ?y3c⟩) (by assumption) ?r3c
        case y3c => (intro w hSw; (try dsimp only at hSw); (try go_split_ands); go_simp); (try with_reducible rfl)
        case r3c =>
        (try simp only [Act.put, setIfInBounds_toArray, set_cons_zero, set_cons_succ])
        refine wpAnyH_take (i := 4) (oi := ⟨some 94, _, _, _, _, _⟩) (v := ?v4c) rfl (by kernel_rfl) (by kernel_rfl) (by kernel_rfl) (fun _ _ _ h => h) (Or.inl ⟨by rfl, ?y4c⟩) (by assumption) ?r4c
        case y4c => (intro w hSw; (try dsimp only at hSw); (try go_split_ands); go_simp); (try with_reducible rfl)
        case r4c =>
        (try simp only [Act.put, setIfInBounds_toArray, set_cons_zero, set_cons_succ])
        refine wpAnyH_take (i := 6) (oi := ⟨some 96, _, _, _, _, _⟩) (v := ?v6c) rfl (by kernel_rfl) (by kernel_rfl) (by kernel_rfl) (fun _ _ _ h => h) (Or.inl ⟨by rfl, ?y6c⟩) (by assumption) ?r6c
        case y6c => (intro w hSw; (try dsimp only at hSw); (try go_split_ands); go_simp); (try with_reducible rfl)
        case r6c =>
        (try simp only [Act.put, setIfInBounds_toArray, set_cons_zero, set_cons_succ])
        refine wpAnyH_take (i := 7) (oi := ⟨some 97, _, _, _, _, _⟩) (v := ?v7c) rfl (by kernel_rfl) (by kernel_rfl) (by kernel_rfl) (fun _ _ _ h => h) (Or.inl ⟨by rfl, ?y7c⟩) (by assumption) ?r7c
        case y7c => (intro w hSw; (try dsimp only at hSw); (try go_split_ands); go_simp); (try with_reducible rfl)
        case r7c =>
        (try simp only [Act.put, setIfInBounds_toArray, set_cons_zero, set_cons_succ])
        refine wpAnyH_take (i := 8) (oi := ⟨some 98, _, _, _, _, _⟩) (v := ?v8c) rfl (by kernel_rfl) (by kernel_rfl) (by kernel_rfl) (fun _ _ _ h => h) (Or.inl ⟨by rfl, ?y8c⟩) (by assumption) ?r8c
        case y8c => (intro w hSw; (try dsimp only at hSw); (try go_split_ands); go_simp); (try with_reducible rfl)
        case r8c =>
        (try simp only [Act.put, setIfInBounds_toArray, set_cons_zero, set_cons_succ])
        refine wpAnyH_take (i := 9) (oi := ⟨some 99, _, _, _, _, _⟩) (v := ?v9c) rfl (by kernel_rfl) (by kernel_rfl) (by kernel_rfl) (fun _ _ _ h => h) (Or.inl ⟨by rfl, ?y9c⟩) (by assumption) ?r9c
        case y9c => (intro w hSw; (try dsimp only at hSw); (try go_split_ands); go_simp); (try with_reducible rfl)
        case r9c =>
        (try simp only [Act.put, setIfInBounds_toArray, set_cons_zero, set_cons_succ])
        refine wpAnyH_take (i := 10) (oi := ⟨some 100, _, _, _, _, _⟩) (v := ?v10c) rfl (by kernel_rfl) (by kernel_rfl) (by kernel_rfl) (fun _ _ _ h => h) (Or.inl ⟨by rfl, ?y10c⟩) (by assumption) ?r10c
        case y10c => (intro w hSw; (try dsimp only at hSw); (try go_split_ands); go_simp); (try with_reducible rfl)
        case r10c =>
        (try simp only [Act.put, setIfInBounds_toArray, set_cons_zero, set_cons_succ])
        refine wpAnyH_ready (rs := [5]) (by kernel_rfl) (by simp) ?_
        refine AllReadyH.cons (o := ⟨some 95, _, _, _, _, _⟩) rfl (fun K hK => ?_) AllReadyH.nil
        go_simp
        refine (jCanC w b d x l l L L g (g + 1) a.who a.n (fun q => q = ab) _ (HJ4.out.below ((Below.refl _ _).drew))).mono ?_
        rintro e w5 ⟨c1, l1, L1, rfl, ⟨hj5, hs5⟩, hx1⟩
        go_wp2_with fail
        have PX := hs5.whl rfl HA4.out.drew
        refine hK.out _ _ ⟨PX.cell 1, PX.cell 2⟩ (fun hHeld => ?_)
        clear hK K
        (try simp only [Act.put, setIfInBounds_toArray, set_cons_zero, set_cons_succ])
        refine wpAnyH_ready (rs := [11]) (by kernel_rfl) (by simp) ?_
        refine AllReadyH.cons (o := ⟨some 101, _, _, _, _, _⟩) rfl (fun K hK => ?_) AllReadyH.nil
        go_simp
        refine (jCanD w b d x l1 l L1 L g (g + 1) a.who a.n Nm (fun q => q = ab) _ hj5 HNM.out (by omega)).mono ?_
        rintro e w6 ⟨c2, l2, L2, rfl, ⟨hj6, hs6⟩, hx2⟩
        obtain ⟨rfl, rfl, rfl⟩ := hx1.det HBK.out hx2
        go_wp2_with fail
        have PX := hs6.whl rfl PX
        refine hK.out _ _ ⟨PX.cell 1, PX.cell 2⟩ (fun hHeld => ?_)
        clear hK K
        (try simp only [Act.put, setIfInBounds_toArray, set_cons_zero, set_cons_succ])
        refine wpAnyH_take (i := 12) (oi := ⟨some 102, _, _, _, _, _⟩) (v := ?v12c) rfl (by kernel_rfl) (by kernel_rfl) (by kernel_rfl) (fun _ _ _ h => h) (Or.inl ⟨by rfl, ?y12c⟩) (by assumption) ?r12c
        case y12c => (intro w hSw; (try dsimp only at hSw); (try go_split_ands); go_simp); (try with_reducible rfl)
        case r12c =>
        (try simp only [Act.put, setIfInBounds_toArray, set_cons_zero, set_cons_succ])
        refine wpAnyH_take (i := 13) (oi := ⟨some 9, _, _, _, _, _⟩) (v := ?v13c) rfl (by kernel_rfl) (by kernel_rfl) (by kernel_rfl) (fun _ _ _ h => h) (Or.inl ⟨by rfl, ?y13c⟩) (by assumption) ?r13c
        case y13c => (intro w hSw; (try dsimp only at hSw); (try go_split_ands); go_simp); (try with_reducible rfl)
        case r13c =>
        (try simp only [Act.put, setIfInBounds_toArray, set_cons_zero, set_cons_succ])
        refine wpAnyH_done (by kernel_rfl) ?_ _
        go_wp2_with fail
        go_meet
        case rel => exact ⟨l1, L1, g, _, rfl, hj6, PX, hx1.nms HNM.out, by rw [List.length_cons]; omega⟩
       ·
        go_wp2_with fail
        go_meet
        case rel => exact ⟨l, L, g, Nm, rfl, HJ4.out, HA4.out, HNM.out, by omega⟩
   case rest =>
    obtain ⟨l5, L5, g5, N5, rfl, hj5, ha5, hnm5, hnl5⟩ := hcut
    have hl5 : l5.length ≤ 101 := by have := hnm5.len hj5.oks.1.1; omega
    have HJ5 := Lib.hid hj5
    have HA5 := Lib.hid ha5
    have HNM5 := Lib.hid hnm5
    obtain ⟨r, hr⟩ : ∃ r, r = hasP l5 a.who.data.toList := ⟨_, rfl⟩
    obtain ⟨i0, i1, i2, i3⟩ := r
    have HI : Hid (hasP l5 a.who.data.toList = (i0, i1, i2, i3)) := Lib.hid hr.symm
    have y2 : wc.cell? ⟨ab, 2, none⟩ = some (.string a.who) := ha5.cell 2
    clear hj5 ha5 hnm5 hr HJ4 HA4 d0 d1 d2 d3 d4 d5 d6 d7 d8 d9 d10 d11 d12
    go_wp2_with fail
    refine wp_region_held_drew (S := (fun W => W.cell? ⟨ab, 2, none⟩ = some (.string a.who))) (by kernel_rfl) y2 (fun hHeld => ?_)
    refine wpAnyH_take (i := 0) (oi := ⟨some 103, _, _, _, _, _⟩) (v := .bool true) rfl (by kernel_rfl) (by kernel_rfl) (by kernel_rfl) (fun _ _ _ h => h) (Or.inl ⟨by rfl, ?y0h⟩) (by assumption) ?r0h
    case y0h => (intro w hSw; (try dsimp only at hSw); (try go_split_ands); (first | (go_simp; done) | (go_simp; simp)))
    case r0h =>
    (try simp only [Act.put, setIfInBounds_toArray, set_cons_zero, set_cons_succ])
    refine wpAnyH_take (i := 1) (oi := ⟨some 104, _, _, _, _, _⟩) (v := .bool false) rfl (by kernel_rfl) (by kernel_rfl) (by kernel_rfl) (fun _ _ _ h => h) (Or.inl ⟨by rfl, ?y1h⟩) (by assumption) ?r1h
    case y1h => (intro w hSw; (try dsimp only at hSw); (try go_split_ands); (first | (go_simp; done) | (go_simp; simp)))
    case r1h =>
    (try simp only [Act.put, setIfInBounds_toArray, set_cons_zero, set_cons_succ])
    refine wpAnyH_take (i := 2) (oi := ⟨some 105, _, _, _, _, _⟩) (v := .bool false) rfl (by kernel_rfl) (by kernel_rfl) (by kernel_rfl) (fun _ _ _ h => h) (Or.inl ⟨by rfl, ?y2h⟩) (by assumption) ?r2h
    case y2h => (intro w hSw; (try dsimp only at hSw); (try go_split_ands); (first | (go_simp; done) | (go_simp; simp)))
    case r2h =>
    (try simp only [Act.put, setIfInBounds_toArray, set_cons_zero, set_cons_succ])
    refine wpAnyH_take (i := 3) (oi := ⟨some 106, _, _, _, _, _⟩) (v := ?v3h) rfl (by kernel_rfl) (by kernel_rfl) (by kernel_rfl) (fun _ _ _ h => h) (Or.inl ⟨by rfl, ?y3h⟩) (by assumption) ?r3h
    case y3h => (intro w hSw; (try dsimp only at hSw); (try go_split_ands); go_simp); (try with_reducible rfl)
    case r3h =>
    (try simp only [Act.put, setIfInBounds_toArray, set_cons_zero, set_cons_succ])
    refine wpAnyH_take (i := 4) (oi := ⟨some 107, _, _, _, _, _⟩) (v := ?v4h) rfl (by kernel_rfl) (by kernel_rfl) (by kernel_rfl) (fun _ _ _ h => h) (Or.inl ⟨by rfl, ?y4h⟩) (by assumption) ?r4h
    case y4h => (intro w hSw; (try dsimp only at hSw); (try go_split_ands); go_simp); (try with_reducible rfl)
    case r4h =>
    (try simp only [Act.put, setIfInBounds_toArray, set_cons_zero, set_cons_succ])
    refine wpAnyH_take (i := 5) (oi := ⟨some 108, _, _, _, _, _⟩) (v := ?v5h) rfl (by kernel_rfl) (by kernel_rfl) (by kernel_rfl) (fun _ _ _ h => h) (Or.inl ⟨by rfl, ?y5h⟩) (by assumption) ?r5h
    case y5h => (intro w hSw; (try dsimp only at hSw); (try go_split_ands); go_simp); (try with_reducible rfl)
    case r5h =>
    (try simp only [Act.put, setIfInBounds_toArray, set_cons_zero, set_cons_succ])
    refine wpAnyH_take (i := 7) (oi := ⟨some 110, _, _, _, _, _⟩) (v := ?v7h) rfl (by kernel_rfl) (by kernel_rfl) (by kernel_rfl) (fun _ _ _ h => h) (Or.inl ⟨by rfl, ?y7h⟩) (by assumption) ?r7h
    case y7h => (intro w hSw; (try dsimp only at hSw); (try go_split_ands); go_simp); (try with_reducible rfl)
    case r7h =>
    (try simp only [Act.put, setIfInBounds_toArray, set_cons_zero, set_cons_succ])
    refine wpAnyH_take (i := 8) (oi := ⟨some 111, _, _, _, _, _⟩) (v := ?v8h) rfl (by kernel_rfl) (by kernel_rfl) (by kernel_rfl) (fun _ _ _ h => h) (Or.inl ⟨by rfl, ?y8h⟩) (by assumption) ?r8h
    case y8h => (intro w hSw; (try dsimp only at hSw); (try go_split_ands); go_simp); (try with_reducible rfl)
    case r8h =>
    (try simp only [Act.put, setIfInBounds_toArray, set_cons_zero, set_cons_succ])
    refine wpAnyH_take (i := 9) (oi := ⟨some 112, _, _, _, _, _⟩) (v := ?v9h) rfl (by kernel_rfl) (by kernel_rfl) (by kernel_rfl) (fun _ _ _ h => h) (Or.inl ⟨by rfl, ?y9h⟩) (by assumption) ?r9h
    case y9h => (intro w hSw; (try dsimp only at hSw); (try go_split_ands); go_simp); (try with_reducible rfl)
    case r9h =>
    (try simp only [Act.put, setIfInBounds_toArray, set_cons_zero, set_cons_succ])
    refine wpAnyH_ready (rs := [6]) (by kernel_rfl) (by simp) ?_
    refine AllReadyH.cons (o := ⟨some 109, _, _, _, _, _⟩) rfl (fun K hK => ?_) AllReadyH.nil
    go_simp
    refine (jHasC w b d x l5 l5 L5 L5 g5 (g5 + 1) a.who HI.out (fun q => q = ab) _ (HJ5.out.below ((Below.refl _ _).drew))).mono ?_
    rintro e w7 ⟨rfl, hb7⟩
    go_wp2_with fail
    have hh7 := ((Below.refl _ _).drew).trans hb7
    have PX := HA5.out.below hh7 HA5.out.low
    refine hK.out _ _ (PX.cell 2) (fun hHeld => ?_)
    clear hK K
    (try simp only [Act.put, setIfInBounds_toArray, set_cons_zero, set_cons_succ])
    refine wpAnyH_ready (rs := [10]) (by kernel_rfl) (by simp) ?_
    refine AllReadyH.cons (o := ⟨some 113, _, _, _, _, _⟩) rfl (fun K hK => ?_) AllReadyH.nil
    go_simp
    refine (jHasD w b d x l5 l5 L5 L5 g5 (g5 + 1) a.who HI.out (fun q => q = ab) _ (HJ5.out.below hh7) (by omega)).mono ?_
    rintro e w8 ⟨rfl, hb8⟩
    go_wp2_with fail
    have hh8 := hh7.trans (hb8.mono hh7.size)
    have PX := HA5.out.below hh8 HA5.out.low
    refine hK.out _ _ (PX.cell 2) (fun hHeld => ?_)
    clear hK K
    (try simp only [Act.put, setIfInBounds_toArray, set_cons_zero, set_cons_succ])
    refine wpAnyH_take (i := 11) (oi := ⟨some 114, _, _, _, _, _⟩) (v := .bool false) rfl (by kernel_rfl) (by kernel_rfl) (by kernel_rfl) (fun _ _ _ h => h) (Or.inl ⟨by rfl, ?y11h⟩) (by assumption) ?r11h
    case y11h => (intro w hSw; (try dsimp only at hSw); (try go_split_ands); (first | (go_simp; done) | (go_simp; simp)))
    case r11h =>
    (try simp only [Act.put, setIfInBounds_toArray, set_cons_zero, set_cons_succ])
    refine wpAnyH_take (i := 12) (oi := ⟨some 115, _, _, _, _, _⟩) (v := .bool false) rfl (by kernel_rfl) (by kernel_rfl) (by kernel_rfl) (fun _ _ _ h => h) (Or.inl ⟨by rfl, ?y12h⟩) (by assumption) ?r12h
    case y12h => (intro w hSw; (try dsimp only at hSw); (try go_split_ands); (first | (go_simp; done) | (go_simp; simp)))
    case r12h =>
    (try simp only [Act.put, setIfInBounds_toArray, set_cons_zero, set_cons_succ])
    refine wpAnyH_done (by kernel_rfl) ?_ _
    go_wp2_with fail
    exact ⟨⟨i + 1, l5, L5, g5, N5, by omega, by go_num, (by rw [← hxx]; exact HJ5.out.belowD hh8 (fun q hq => hq.elim)), HNM5.out, hnl5⟩, by simp [intOf]; omega⟩
  ·
   obtain rfl : min xs.length 100 = i := by omega
   by_cases q3 : ((min xs.length 100 : Nat) : Int) < (xs.length : Int)
   ·
    have q4 : ¬ ((min xs.length 100 : Nat) : Int) < 100 := by omega
    go_wp2_with fail
    refine bodyPost_ret (v := .tuple #[.pointer (some ⟨b, 0, none⟩), .pointer (some ⟨d, 0, none⟩), .bool true]) (by simp [results, Tryz.results7, go_sem]) rfl (by first | exact ⟨b, d, x, l, L, g, Nm, rfl, HJ.out, HNM.out, by omega⟩ | exact ⟨b, d, rfl, x, l, L, g, Nm, HJ.out, HNM.out, by omega⟩ | exact ⟨b, d, rfl, x, l, L, g, HJ.out, Nm, HNM.out, by omega⟩ | exact ⟨b, d, rfl, x, l, L, ⟨g, HJ.out⟩, Nm, HNM.out, by omega⟩)
   ·
    go_wp2_with fail
    refine bodyPost_ret (v := .tuple #[.pointer (some ⟨b, 0, none⟩), .pointer (some ⟨d, 0, none⟩), .bool true]) (by simp [results, Tryz.results7, go_sem]) rfl (by first | exact ⟨b, d, x, l, L, g, Nm, rfl, HJ.out, HNM.out, by omega⟩ | exact ⟨b, d, rfl, x, l, L, g, Nm, HJ.out, HNM.out, by omega⟩ | exact ⟨b, d, rfl, x, l, L, g, HJ.out, Nm, HNM.out, by omega⟩ | exact ⟨b, d, rfl, x, l, L, ⟨g, HJ.out⟩, Nm, HNM.out, by omega⟩)
end Go.Proofs.YtdlbiobjnohfbaaGreat
