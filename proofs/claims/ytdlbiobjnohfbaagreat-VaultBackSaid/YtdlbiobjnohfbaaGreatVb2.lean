/- book: a side's methods: Len, Less, Swap. container/heap on a side: the interface's methods; up. -/
import Derived.Test.YtdlbiobjnohfbaaGreatTkVb
import Derived.Deep.RegionLaw
import Derived.Deep.Onto
import Derived.Test.YtdlbiobjnohfbaaGreatVb0
namespace Go.Proofs.YtdlbiobjnohfbaaGreat
open Go.RowKit
set_option linter.unusedVariables false
set_option linter.unusedSimpArgs false
theorem Tryz.infoOrder : (Tryz.prog.info? 38).map (fun i => (i.zero, i.size, i.bytes)) = some (some (.agg #[.int .i64 0, .string ⟨#[]⟩, .bool false, .int .i64 0, .int .i64 0, .int .i64 0]), 6, 56) := by kernel_rfl
theorem Touch.drew' {D : Nat → Prop} {w w' : World} (h : Touch D w w') : Touch D w w'.drew := ⟨h.os, h.tape, h.output, h.size, h.block⟩
theorem ixO {i n : Nat} (h : i < n) (k : Nat) (hk : k < 6) : i * 6 + k < n * 6 := by omega
theorem ixO0 {i n : Nat} (h : i < n) : i * 6 < n * 6 := by omega
def putO (w : World) (g i : Nat) (o : Od) : World := (((((w.setCell ⟨g, i * 6, none⟩ (.int .i64 o.id)).setCell ⟨g, i * 6 + 1, none⟩ (.string o.who)).setCell ⟨g, i * 6 + 2, none⟩ (.bool o.buy)).setCell ⟨g, i * 6 + 3, none⟩ (.int .i64 o.item)).setCell ⟨g, i * 6 + 4, none⟩ (.int .i64 o.ct)).setCell ⟨g, i * 6 + 5, none⟩ (.int .i64 o.pr)
theorem putO_own {w : World} {B g n cp i : Nat} {l : List Od} {o : Od} (h : w.ownsRow B 38 6 (.slice (some ⟨g, 0, none⟩) n cp) n (flatO l)) (hi : i < l.length) : (putO w g i o).ownsRow B 38 6 (.slice (some ⟨g, 0, none⟩) n cp) n (flatO (l.set i o)) := by
 rw [flatO_set l i o hi]
 exact (((((((h.stored (i * 6) _).1).stored (i * 6 + 1) _).1.stored (i * 6 + 2) _).1.stored (i * 6 + 3) _).1.stored (i * 6 + 4) _).1.stored (i * 6 + 5) _).1
theorem putO_touch {D : Nat → Prop} {w w' : World} {g i : Nat} {o : Od} (h : Touch D w w') (hD : D g) : Touch D w (putO w' g i o) :=
 (((((h.set (fun _ => hD)).set (fun _ => hD)).set (fun _ => hD)).set (fun _ => hD)).set (fun _ => hD)).set (fun _ => hD)
set_option maxHeartbeats 2000000 in
set_option maxRecDepth 10000 in
theorem sideSwap (B : Nat) (l : List Od) (v : Value) (n i j : Nat) (hn : l.length = n) (hi : i < n) (hj : j < n) (w : World) (h : w.ownsRow B 38 6 v n (flatO l)) :
  Calls Tryz.prog 163 #[v, .int .i64 i, .int .i64 j] w fun e w' => e = .returned (.tuple #[]) ∧ w'.ownsRow B 38 6 v n (flatO (swapL l i j)) ∧ Touch (fun x => v.ownBlock = some x) w w' := by
 obtain ⟨g, cp, rfl, hg1, hg2, hg3, hg4⟩ := own_form h (Nat.lt_of_le_of_lt (Nat.zero_le _) hi)
 obtain ⟨x0, x1, x2, x3, x4, x5⟩ := flatO_at l i (by omega)
 obtain ⟨y0, y1, y2, y3, y4, y5⟩ := flatO_at l j (by omega)
 obtain ⟨a, ha⟩ : ∃ a, a = l[i]'(by omega) := ⟨_, rfl⟩
 obtain ⟨b, hb⟩ : ∃ b, b = l[j]'(by omega) := ⟨_, rfl⟩
 rw [← ha] at x0 x1 x2 x3 x4 x5
 rw [← hb] at y0 y1 y2 y3 y4 y5
 have a0 := (h.cellAt (i * 6) (ixO0 hi)).trans x0
 have a1 := (h.cellAt (i * 6 + 1) (ixO hi 1 (by decide))).trans x1
 have a2 := (h.cellAt (i * 6 + 2) (ixO hi 2 (by decide))).trans x2
 have a3 := (h.cellAt (i * 6 + 3) (ixO hi 3 (by decide))).trans x3
 have a4 := (h.cellAt (i * 6 + 4) (ixO hi 4 (by decide))).trans x4
 have a5 := (h.cellAt (i * 6 + 5) (ixO hi 5 (by decide))).trans x5
 have b0 := (h.cellAt (j * 6) (ixO0 hj)).trans y0
 have b1 := (h.cellAt (j * 6 + 1) (ixO hj 1 (by decide))).trans y1
 have b2 := (h.cellAt (j * 6 + 2) (ixO hj 2 (by decide))).trans y2
 have b3 := (h.cellAt (j * 6 + 3) (ixO hj 3 (by decide))).trans y3
 have b4 := (h.cellAt (j * 6 + 4) (ixO hj 4 (by decide))).trans y4
 have b5 := (h.cellAt (j * 6 + 5) (ixO hj 5 (by decide))).trans y5
 have HR := Lib.hid h
 have HA := Lib.hid ha
 have HB := Lib.hid hb
 have fz := fun k => h.frozenAt k
 clear h x0 x1 x2 x3 x4 x5 y0 y1 y2 y3 y4 y5 ha hb
 have q1 : (i : Int) < (n : Int) := by omega
 have q2 : (j : Int) < (n : Int) := by omega
 go_enter Tryz.func163, Tryz.ntmps163
 refine wp_region_held_drew (S := (fun _ => True)) (by kernel_rfl) trivial (fun hHeld => ?_)
 refine tkY 0 (some 6) ?v0_1 rfl ?y0_1 ?r0_1
 case y0_1 => exact tY
 case r0_1 =>
 try simp only [q1,q2,q3,q4,q5]
 refine tkY 1 (some 7) ?v1_4 rfl ?y1_4 ?r1_4
 case y1_4 => exact tY
 case r1_4 =>
 try simp only [q1,q2,q3,q4,q5]
 refine tkY 2 (some 8) ?v2_7 rfl ?y2_7 ?r2_7
 case y2_7 => exact tY
 case r2_7 =>
 try simp only [q1,q2,q3,q4,q5]
 refine tkY 3 (some 9) ?v3_10 rfl ?y3_10 ?r3_10
 case y3_10 => exact tY
 case r3_10 =>
 try simp only [q1,q2,q3,q4,q5]
 refine tkY 4 (some 10) ?v4_13 rfl ?y4_13 ?r4_13
 case y4_13 => exact tY
 case r4_13 =>
 try simp only [q1,q2,q3,q4,q5]
 refine tkY 5 (some 11) ?v5_16 rfl ?y5_16 ?r5_16
 case y5_16 => exact tY
 case r5_16 =>
 try simp only [q1,q2,q3,q4,q5]
 refine tkY 6 (some 12) ?v6_19 rfl ?y6_19 ?r6_19
 case y6_19 => exact tY
 case r6_19 =>
 try simp only [q1,q2,q3,q4,q5]
 refine tkY 8 (some 14) ?v8_22 rfl ?y8_22 ?r8_22
 case y8_22 => exact tY
 case r8_22 =>
 try simp only [q1,q2,q3,q4,q5]
 refine tkY 9 (some 15) ?v9_25 rfl ?y9_25 ?r9_25
 case y9_25 => exact tY
 case r9_25 =>
 try simp only [q1,q2,q3,q4,q5]
 refine tkY 10 (some 16) ?v10_28 rfl ?y10_28 ?r10_28
 case y10_28 => exact tY
 case r10_28 =>
 try simp only [q1,q2,q3,q4,q5]
 refine wpAnyH_ready (rs := [7, 11]) (by kernel_rfl) (by simp) ?_
 refine AllReadyH.cons (o := ⟨some 13, _, _, _, _, _⟩) rfl (fun K hK => ?_) (AllReadyH.cons (o := ⟨some 17, _, _, _, _, _⟩) rfl (fun K hK => ?_) AllReadyH.nil)
 ·
  have b0' : w.drew.cell? ⟨g, j * 6, none⟩ = _ := b0
  have b1' : w.drew.cell? ⟨g, j * 6 + 1, none⟩ = _ := b1
  have b2' : w.drew.cell? ⟨g, j * 6 + 2, none⟩ = _ := b2
  have b3' : w.drew.cell? ⟨g, j * 6 + 3, none⟩ = _ := b3
  have b4' : w.drew.cell? ⟨g, j * 6 + 4, none⟩ = _ := b4
  have b5' : w.drew.cell? ⟨g, j * 6 + 5, none⟩ = _ := b5
  go_simp
  refine hK.out _ _ trivial (fun hHeld => ?_)
  clear hK K
  try simp only [q1,q2,q3,q4,q5]
  refine wpAnyH_ready (rs := [11]) (by kernel_rfl) (by simp) ?_
  refine AllReadyH.cons (o := ⟨some 17, _, _, _, _, _⟩) rfl (fun K hK => ?_) AllReadyH.nil
  have a0' : w.drew.cell? ⟨g, i * 6, none⟩ = _ := a0
  have a1' : w.drew.cell? ⟨g, i * 6 + 1, none⟩ = _ := a1
  have a2' : w.drew.cell? ⟨g, i * 6 + 2, none⟩ = _ := a2
  have a3' : w.drew.cell? ⟨g, i * 6 + 3, none⟩ = _ := a3
  have a4' : w.drew.cell? ⟨g, i * 6 + 4, none⟩ = _ := a4
  have a5' : w.drew.cell? ⟨g, i * 6 + 5, none⟩ = _ := a5
  go_simp
  refine hK.out _ _ trivial (fun hHeld => ?_)
  clear hK K
  try simp only [q1,q2,q3,q4,q5]
  refine tkY 12 (some 18) ?v12_55 rfl ?y12_55 ?r12_55
  case y12_55 => exact tY
  case r12_55 =>
  try simp only [q1,q2,q3,q4,q5]
  refine wpAnyH_ready (rs := [13]) (by kernel_rfl) (by simp) ?_
  refine AllReadyH.cons (o := ⟨none, _, _, _, _, _⟩) rfl (fun K hK => ?_) AllReadyH.nil
  go_simp
  have R1 : ((putO w g i b).drew).ownsRow B 38 6 (.slice (some ⟨g, 0, none⟩) n cp) n (flatO (l.set i b)) := (putO_own HR.out (by omega)).drew
  have T1 : Touch (fun x => (some g : Option Nat) = some x) w ((putO w g i b).drew) := (putO_touch (Touch.refl (fun x => (some g : Option Nat) = some x) w) rfl).drew'
  show K _ ((putO w g i b).drew)
  generalize (putO w g i b).drew = V at R1 T1 ⊢
  have HR1 := Lib.hid R1
  have fz1 := fun k => R1.frozenAt k
  obtain ⟨z0, z1, z2, z3, z4, z5⟩ := flatO_at (l.set i b) j (by simp; omega)
  have d0 := (R1.cellAt (j * 6) (ixO0 hj)).trans z0
  have d1 := (R1.cellAt (j * 6 + 1) (ixO hj 1 (by decide))).trans z1
  have d2 := (R1.cellAt (j * 6 + 2) (ixO hj 2 (by decide))).trans z2
  have d3 := (R1.cellAt (j * 6 + 3) (ixO hj 3 (by decide))).trans z3
  have d4 := (R1.cellAt (j * 6 + 4) (ixO hj 4 (by decide))).trans z4
  have d5 := (R1.cellAt (j * 6 + 5) (ixO hj 5 (by decide))).trans z5
  clear R1 z0 z1 z2 z3 z4 z5 a0 a1 a2 a3 a4 a5 b0 b1 b2 b3 b4 b5 fz
  refine hK.out _ _ trivial (fun hHeld => ?_)
  clear hK K
  try simp only [q1,q2,q3,q4,q5]
  refine tkY 14 (some 19) ?v14_78 rfl ?y14_78 ?r14_78
  case y14_78 => exact tY
  case r14_78 =>
  try simp only [q1,q2,q3,q4,q5]
  refine wpAnyH_ready (rs := [15]) (by kernel_rfl) (by simp) ?_
  refine AllReadyH.cons (o := ⟨none, _, _, _, _, _⟩) rfl (fun K hK => ?_) AllReadyH.nil
  go_simp
  show K _ (putO V g j a)
  refine hK.out _ _ trivial (fun hHeld => ?_)
  clear hK K
  try simp only [q1,q2,q3,q4,q5]
  refine wpAnyH_done (by kernel_rfl) ?_ _
  go_wp2_with fail
  refine bodyPost_end (v := .tuple #[]) (by simp [results, Tryz.results163, go_sem]) rfl ⟨rfl, ?_, putO_touch T1 rfl⟩
  have R2 := putO_own (o := a) (i := j) HR1.out (by simp; omega)
  rw [swapL_eq (by omega) (by omega), ← HA.out, ← HB.out]
  exact R2
 ·
  have a0' : w.drew.cell? ⟨g, i * 6, none⟩ = _ := a0
  have a1' : w.drew.cell? ⟨g, i * 6 + 1, none⟩ = _ := a1
  have a2' : w.drew.cell? ⟨g, i * 6 + 2, none⟩ = _ := a2
  have a3' : w.drew.cell? ⟨g, i * 6 + 3, none⟩ = _ := a3
  have a4' : w.drew.cell? ⟨g, i * 6 + 4, none⟩ = _ := a4
  have a5' : w.drew.cell? ⟨g, i * 6 + 5, none⟩ = _ := a5
  go_simp
  refine hK.out _ _ trivial (fun hHeld => ?_)
  clear hK K
  try simp only [q1,q2,q3,q4,q5]
  refine wpAnyH_ready (rs := [7]) (by kernel_rfl) (by simp) ?_
  refine AllReadyH.cons (o := ⟨some 13, _, _, _, _, _⟩) rfl (fun K hK => ?_) AllReadyH.nil
  have b0' : w.drew.cell? ⟨g, j * 6, none⟩ = _ := b0
  have b1' : w.drew.cell? ⟨g, j * 6 + 1, none⟩ = _ := b1
  have b2' : w.drew.cell? ⟨g, j * 6 + 2, none⟩ = _ := b2
  have b3' : w.drew.cell? ⟨g, j * 6 + 3, none⟩ = _ := b3
  have b4' : w.drew.cell? ⟨g, j * 6 + 4, none⟩ = _ := b4
  have b5' : w.drew.cell? ⟨g, j * 6 + 5, none⟩ = _ := b5
  go_simp
  refine hK.out _ _ trivial (fun hHeld => ?_)
  clear hK K
  try simp only [q1,q2,q3,q4,q5]
  refine tkY 12 (some 18) ?v12_116 rfl ?y12_116 ?r12_116
  case y12_116 => exact tY
  case r12_116 =>
  try simp only [q1,q2,q3,q4,q5]
  refine wpAnyH_ready (rs := [13]) (by kernel_rfl) (by simp) ?_
  refine AllReadyH.cons (o := ⟨none, _, _, _, _, _⟩) rfl (fun K hK => ?_) AllReadyH.nil
  go_simp
  have R1 : ((putO w g i b).drew).ownsRow B 38 6 (.slice (some ⟨g, 0, none⟩) n cp) n (flatO (l.set i b)) := (putO_own HR.out (by omega)).drew
  have T1 : Touch (fun x => (some g : Option Nat) = some x) w ((putO w g i b).drew) := (putO_touch (Touch.refl (fun x => (some g : Option Nat) = some x) w) rfl).drew'
  show K _ ((putO w g i b).drew)
  generalize (putO w g i b).drew = V at R1 T1 ⊢
  have HR1 := Lib.hid R1
  have fz1 := fun k => R1.frozenAt k
  obtain ⟨z0, z1, z2, z3, z4, z5⟩ := flatO_at (l.set i b) j (by simp; omega)
  have d0 := (R1.cellAt (j * 6) (ixO0 hj)).trans z0
  have d1 := (R1.cellAt (j * 6 + 1) (ixO hj 1 (by decide))).trans z1
  have d2 := (R1.cellAt (j * 6 + 2) (ixO hj 2 (by decide))).trans z2
  have d3 := (R1.cellAt (j * 6 + 3) (ixO hj 3 (by decide))).trans z3
  have d4 := (R1.cellAt (j * 6 + 4) (ixO hj 4 (by decide))).trans z4
  have d5 := (R1.cellAt (j * 6 + 5) (ixO hj 5 (by decide))).trans z5
  clear R1 z0 z1 z2 z3 z4 z5 a0 a1 a2 a3 a4 a5 b0 b1 b2 b3 b4 b5 fz
  refine hK.out _ _ trivial (fun hHeld => ?_)
  clear hK K
  try simp only [q1,q2,q3,q4,q5]
  refine tkY 14 (some 19) ?v14_139 rfl ?y14_139 ?r14_139
  case y14_139 => exact tY
  case r14_139 =>
  try simp only [q1,q2,q3,q4,q5]
  refine wpAnyH_ready (rs := [15]) (by kernel_rfl) (by simp) ?_
  refine AllReadyH.cons (o := ⟨none, _, _, _, _, _⟩) rfl (fun K hK => ?_) AllReadyH.nil
  go_simp
  show K _ (putO V g j a)
  refine hK.out _ _ trivial (fun hHeld => ?_)
  clear hK K
  try simp only [q1,q2,q3,q4,q5]
  refine wpAnyH_done (by kernel_rfl) ?_ _
  go_wp2_with fail
  refine bodyPost_end (v := .tuple #[]) (by simp [results, Tryz.results163, go_sem]) rfl ⟨rfl, ?_, putO_touch T1 rfl⟩
  have R2 := putO_own (o := a) (i := j) HR1.out (by simp; omega)
  rw [swapL_eq (by omega) (by omega), ← HA.out, ← HB.out]
  exact R2
set_option maxHeartbeats 2000000 in
set_option maxRecDepth 10000 in
theorem sideLess (B : Nat) (l : List Od) (v : Value) (n i j : Nat) (hn : l.length = n) (hi : i < n) (hj : j < n) (w : World) (h : w.ownsRow B 38 6 v n (flatO l)) :
  Calls Tryz.prog 162 #[v, .int .i64 i, .int .i64 j] w fun e w' => e = .returned (.bool (lessO (l[i]'(by omega)) (l[j]'(by omega)))) ∧ Below w.heap.size w w' := by
 obtain ⟨g, cp, rfl, hg1, hg2, hg3, hg4⟩ := own_form h (Nat.lt_of_le_of_lt (Nat.zero_le _) hi)
 obtain ⟨x0, x1, x2, x3, x4, x5⟩ := flatO_at l i (by omega)
 obtain ⟨y0, y1, y2, y3, y4, y5⟩ := flatO_at l j (by omega)
 obtain ⟨a, ha⟩ : ∃ a, a = l[i]'(by omega) := ⟨_, rfl⟩
 obtain ⟨b, hb⟩ : ∃ b, b = l[j]'(by omega) := ⟨_, rfl⟩
 rw [← ha] at x0 x1 x2 x3 x4 x5
 rw [← hb] at y0 y1 y2 y3 y4 y5
 rw [← ha, ← hb]
 have a0 := (h.cellAt (i * 6) (ixO0 hi)).trans x0
 have a1 := (h.cellAt (i * 6 + 1) (ixO hi 1 (by decide))).trans x1
 have a2 := (h.cellAt (i * 6 + 2) (ixO hi 2 (by decide))).trans x2
 have a3 := (h.cellAt (i * 6 + 3) (ixO hi 3 (by decide))).trans x3
 have a4 := (h.cellAt (i * 6 + 4) (ixO hi 4 (by decide))).trans x4
 have a5 := (h.cellAt (i * 6 + 5) (ixO hi 5 (by decide))).trans x5
 have b0 := (h.cellAt (j * 6) (ixO0 hj)).trans y0
 have b1 := (h.cellAt (j * 6 + 1) (ixO hj 1 (by decide))).trans y1
 have b2 := (h.cellAt (j * 6 + 2) (ixO hj 2 (by decide))).trans y2
 have b3 := (h.cellAt (j * 6 + 3) (ixO hj 3 (by decide))).trans y3
 have b4 := (h.cellAt (j * 6 + 4) (ixO hj 4 (by decide))).trans y4
 have b5 := (h.cellAt (j * 6 + 5) (ixO hj 5 (by decide))).trans y5
 obtain ⟨a_id, a_who, a_buy, a_item, a_ct, a_pr⟩ := a
 obtain ⟨b_id, b_who, b_buy, b_item, b_ct, b_pr⟩ := b
 simp only at a0 a1 a2 a3 a4 a5 b0 b1 b2 b3 b4 b5
 clear h x0 x1 x2 x3 x4 x5 y0 y1 y2 y3 y4 y5 ha hb
 have q1 : (i : Int) < (n : Int) := by omega
 have q2 : (j : Int) < (n : Int) := by omega
 go_enter Tryz.func162, Tryz.ntmps162
 go_wp2_with fail
 by_cases hp : a_pr = b_pr
 ·
  subst hp
  go_region
  all_goals go_wp2_with fail
  all_goals go_ret
  all_goals exact ⟨ret_bool (by simp [lessO]), by exact tB⟩
 ·
  go_region
  all_goals go_wp2_with fail
  all_goals go_ret
  all_goals exact ⟨ret_bool (by simp [lessO, hp]; cases decide (b_pr < a_pr) <;> cases a_buy <;> rfl), by exact tB⟩
structure Sd (w : World) (b k : Nat) (t : TypeId) (cs : Array Value) (l : List Od) (v : Value) : Prop where
 whl : Whl w b t cs
 at_ : cs[k]? = some v
 own : w.ownsRow 0 38 6 v l.length (flatO l)
 far : v.ownBlock ≠ some b
theorem Sd.cell {w : World} {b k : Nat} {t : TypeId} {cs : Array Value} {l : List Od} {v : Value} (h : Sd w b k t cs l v) : w.cell? ⟨b, k, none⟩ = some v := (h.whl.cell k).trans h.at_
theorem Sd.below {w w' : World} {b k : Nat} {t : TypeId} {cs : Array Value} {l : List Od} {v : Value} (h : Sd w b k t cs l v) (hb : Below w.heap.size w w') : Sd w' b k t cs l v :=
 ⟨h.whl.below hb h.whl.low, h.at_, (Touch.of_below hb).own h.own (fun g hg hd => by have := (h.own.lt g hg).2; omega), h.far⟩
theorem Sd.row {w w' : World} {b k : Nat} {t : TypeId} {cs : Array Value} {l l' : List Od} {v : Value} (h : Sd w b k t cs l v) (ht : Touch (fun x => v.ownBlock = some x) w w') (ho : w'.ownsRow 0 38 6 v l'.length (flatO l')) : Sd w' b k t cs l' v :=
 ⟨(ht.block b h.whl.low h.far).trans h.whl, h.at_, ho, h.far⟩
theorem meth_push (a : Addr) (w : World) : (method 320 148 (.pointer (some a)) "Push").run Tryz.prog w = .ok (165, .pointer (some a)) w := by kernel_rfl
theorem meth_pop (a : Addr) (w : World) : (method 320 148 (.pointer (some a)) "Pop").run Tryz.prog w = .ok (164, .pointer (some a)) w := by kernel_rfl
theorem meth_len0 (a : Addr) (w : World) : (method 320 148 (.pointer (some a)) "Len").run Tryz.prog w = (loadVar 75 a >>= fun v => pure ((161 : FuncId), v)).run Tryz.prog w := by kernel_rfl
theorem meth_less0 (a : Addr) (w : World) : (method 320 148 (.pointer (some a)) "Less").run Tryz.prog w = (loadVar 75 a >>= fun v => pure ((162 : FuncId), v)).run Tryz.prog w := by kernel_rfl
theorem meth_swap0 (a : Addr) (w : World) : (method 320 148 (.pointer (some a)) "Swap").run Tryz.prog w = (loadVar 75 a >>= fun v => pure ((163 : FuncId), v)).run Tryz.prog w := by kernel_rfl
theorem Sd.meth {w : World} {b k : Nat} {t : TypeId} {cs : Array Value} {l : List Od} {v : Value} (hs : Sd w b k t cs l v) :
  (method 320 148 (.pointer (some ⟨b, k, none⟩)) "Len").run Tryz.prog w = .ok (161, v) w ∧
  (method 320 148 (.pointer (some ⟨b, k, none⟩)) "Less").run Tryz.prog w = .ok (162, v) w ∧
  (method 320 148 (.pointer (some ⟨b, k, none⟩)) "Swap").run Tryz.prog w = .ok (163, v) w := by
 obtain ⟨A, c, rfl, _⟩ := own_slice hs.own
 have h := hs.cell
 refine ⟨?_, ?_, ?_⟩
 · rw [meth_len0]; go_simp
 · rw [meth_less0]; go_simp
 · rw [meth_swap0]; go_simp
theorem sideLen (r : Option Addr) (n c : Nat) (w : World) : Calls Tryz.prog 161 #[.slice r n c] w fun e w' => e = .returned (.int .i64 n) ∧ w' = w := by
 go_enter Tryz.func161, Tryz.ntmps161
 go_wp2_with fail
 go_ret
 exact ⟨rfl, rfl⟩
theorem sideLenV {w : World} {B n : Nat} {l : List Value} {v : Value} (h : w.ownsRow B 38 6 v n l) (w1 : World) : Calls Tryz.prog 161 #[v] w1 fun e w' => e = .returned (.int .i64 n) ∧ w' = w1 := by
 obtain ⟨A, c, rfl, _⟩ := own_slice h
 exact sideLen _ _ _ _
theorem swapL_far {l : List Od} {i j k : Nat} (hi : i ≠ k) (hj : j ≠ k) : (swapL l i j)[k]? = l[k]? := by
 unfold swapL
 split
 · rw [List.getElem?_set_ne hj, List.getElem?_set_ne hi]
 · rfl
set_option maxHeartbeats 2000000 in
set_option maxRecDepth 10000 in
theorem heapUp (b k : Nat) (t : TypeId) (cs : Array Value) (bb : Bool) (l : List Od) (v : Value) (j : Nat) (w : World) (h : Sd w b k t cs l v) (hq : SideQ bb l) (N : Nat) (hN : N ≤ l.length) (hu : UpI (kf l) N j) (hj : j < N) (hlen : l.length ≤ 1000) :
  Calls Tryz.prog 105 #[.iface 148 (.pointer (some ⟨b, k, none⟩)), .int .i64 j] w fun e w' => e = .returned (.tuple #[]) ∧ ∃ l', l'.Perm l ∧ HeapF (kf l') N ∧ (∀ k, N ≤ k → l'[k]? = l[k]?) ∧ Sd w' b k t cs l' v ∧ Touch (fun x => v.ownBlock = some x) w w' := by
 go_enter Tryz.func105, Tryz.ntmps105
 go_wp2_with fail
 go_loopw [1, 4] (fun jv iv wr => ∃ (m : Nat) (l1 : List Od), m < N ∧ jv = .int .i64 m ∧ l1.Perm l ∧ UpI (kf l1) N m ∧ (∀ k, N ≤ k → l1[k]? = l[k]?) ∧ Sd wr b k t cs l1 v ∧ Touch (fun x => v.ownBlock = some x) w wr) (fun jv _ _ => (intOf jv).toNat)
 case atStart => exact ⟨j, l, hj, rfl, List.Perm.refl _, hu, fun _ _ => rfl, h, Touch.refl _ _⟩
 case round =>
  obtain ⟨m, l1, hm, rfl, hp, hU, hF, hS, hT⟩ := hrel
  have hl1 : l1.length = l.length := hp.length_eq
  have hq1 := hq.perm hp
  have hms := hS.meth.2.1
  have HS := Lib.hid hS
  have HT := Lib.hid hT
  have HU := Lib.hid hU
  have HF := Lib.hid hF
  have HP := Lib.hid hp
  have HQ := Lib.hid hq1
  clear hS hT hU hF hp hq1 hq h hu
  by_cases h0 : m = 0
  ·
   subst h0
   go_wp2_with fail
   exact bodyPost_end (v := .tuple #[]) (by simp [results, Tryz.results105, go_sem]) rfl ⟨rfl, l1, HP.out, HU.out.zero, HF.out, HS.out, HT.out⟩
  ·
   have hm0 : 0 < m := by omega
   obtain ⟨p, hpp⟩ : ∃ p, p = (m - 1) / 2 := ⟨_, rfl⟩
   have hpe : ((m : Int) - 1) / 2 = (p : Int) := by omega
   have hpm : p < m := by omega
   have hne : ¬ (p : Int) = (m : Int) := by omega
   have HPP := Lib.hid hpp
   clear hpp
   have hlk := less_kf HQ.out (show m < l1.length by omega) (show p < l1.length by omega)
   have hsl := sideSwap 0 l1 v l1.length p m rfl (by omega) (by omega)
   by_cases hlt : kf l1 m < kf l1 p
   ·
    have hle : lessO (l1[m]'(by omega)) (l1[p]'(by omega)) = true := by rw [hlk]; exact decide_eq_true hlt
    have HLE := Lib.hid hle
    have HLT := Lib.hid hlt
    clear hlk hle hlt
    go_wp2_with (first
     | (go_at_call 162; refine (sideLess 0 l1 v l1.length m p rfl (by omega) (by omega) _ HS.out.own).mono ?_; rintro e w2 ⟨he, hb2⟩; rw [HLE.out] at he; subst he; have hs2 := hb2.size; have HS2 := Lib.hid (HS.out.below hb2); have hm2 := HS2.out.meth.2.2; have HT2 := Lib.hid (HT.out.trans (Touch.of_below hb2) (fun x hx hg => absurd hg (by have := HT.out.size; omega))))
     | (go_at_call 163; refine (hsl _ HS2.out.own).mono ?_; rintro e w3 ⟨rfl, ho3, ht3⟩; have HT3 := Lib.hid (HT2.out.trans ht3 (fun _ _ hg => hg)); have HS3 := Lib.hid (HS2.out.row ht3 (l' := swapL l1 p m) (by rw [swapL_len]; exact ho3)); clear ho3 ht3)
     | fail)
    refine ⟨⟨p, swapL l1 p m, by omega, rfl, (swapL_perm (by omega) (by omega)).trans HP.out, ?_, ?_, HS3.out, HT3.out⟩, by simp [intOf]; omega⟩
    ·
     rw [swapL_kf (by omega) (by omega)]
     exact HU.out.step hm0 hm HPP.out HLT.out
    ·
     intro k hk
     rw [swapL_far (by omega) (by omega)]
     exact HF.out k hk
   ·
    have hle : lessO (l1[m]'(by omega)) (l1[p]'(by omega)) = false := by rw [hlk]; exact decide_eq_false hlt
    have HLE := Lib.hid hle
    have HLT := Lib.hid hlt
    clear hlk hle hlt hsl
    go_wp2_with (first
     | (go_at_call 162; refine (sideLess 0 l1 v l1.length m p rfl (by omega) (by omega) _ HS.out.own).mono ?_; rintro e w2 ⟨he, hb2⟩; rw [HLE.out] at he; subst he; have hs2 := hb2.size; have HS2 := Lib.hid (HS.out.below hb2); have HT2 := Lib.hid (HT.out.trans (Touch.of_below hb2) (fun x hx hg => absurd hg (by have := HT.out.size; omega))))
     | fail)
    refine bodyPost_end (v := .tuple #[]) (by simp [results, Tryz.results105, go_sem]) rfl ⟨rfl, l1, HP.out, ?_, HF.out, HS2.out, HT2.out⟩
    exact HU.out.stop (by rw [← HPP.out]; have := HLT.out; omega)
end Go.Proofs.YtdlbiobjnohfbaaGreat
